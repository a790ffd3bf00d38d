/- Layer 4: how the statements compare, and the fixed examples that every statement checks first: awake returns true and writes nothing that was there. -/
import Derived.Test.YtembggidhmdnfaaPolyP
namespace Go.Proofs.Ytembggidhmdnfaa
open Go.RowKit

theorem Holds.congr {w : World} {f g : Nat → Bool} {A : Option Addr} {n c : Nat} {L : List UInt8} (h : Holds w f A n c L) (e : ∀ i, f i = g i) : Holds w g A n c L :=
  ⟨h.len, h.cap, h.can.congr e, h.lies⟩
theorem Holds.drewN {w : World} {f : Nat → Bool} {A : Option Addr} {n c : Nat} {L : List UInt8} (h : Holds w f A n c L) (q : Nat) : Holds (w.drewN q) f A n c L :=
  ⟨h.len, h.cap, h.can, h.lies⟩
theorem below_drew {w w' : World} {B q : Nat} (h : w' = w.drewN q) (hB : B ≤ w.heap.size) : Below B w w' := by
  rw [h]; exact below_drewN ((Below.refl _ w).mono hB) _
theorem can_of_red {l : List UInt8} (h : red l = l) : Can (co l) l := by
  have := red_can l
  rwa [h] at this

theorem lsame_any (A A' : Option Addr) (c c' B : Nat) (a b : List UInt8) (w : World) (ha : Lies w B A (a.map bv)) (hb : Lies w B A' (b.map bv)) (hn : a.length ≤ 1000000) :
    Calls Try.prog 11 #[.slice A a.length c, .slice A' b.length c'] w fun e w' => e = .returned (.bool (decide (a = b))) ∧ ∃ q, w' = w.drewN q := by
  have hS := same_any A A' c c' B a b w ha hb (by unfold maxLen; omega)
  generalize decide (a = b) = r at *
  go_enter Try.func11, Try.ntmps11
  go_wp2_with fail
  refine hS.mono ?_
  rintro e w1 ⟨rfl, q, h1⟩
  go_wp2_with fail
  go_ret
  exact ⟨rfl, q, rfl⟩
/-- two results of one polynomial are the same list -/
theorem same_holds {f g : Nat → Bool} {A A' : Option Addr} {n c n' c' : Nat} {L M : List UInt8} {w : World} (h1 : Holds w f A n c L) (h2 : Holds w g A' n' c' M) (e : ∀ i, f i = g i) (hn : n ≤ 1000000) :
    Calls Try.prog 11 #[.slice A n c, .slice A' n' c'] w fun e w' => e = .returned (.bool true) ∧ Below w.heap.size w w' := by
  have h := lsame_any A A' c c' w.heap.size L M w h1.lies h2.lies (by rw [h1.len]; exact hn)
  rw [h1.len, h2.len, decide_eq_true (h1.can.uniq h2.can e)] at h
  refine h.mono ?_
  rintro e w' ⟨rfl, q, h3⟩
  exact ⟨rfl, below_drew h3 (Nat.le_refl _)⟩
/-- .. one of them written out -/
theorem lit_holds (w : World) (M : List UInt8) (h : red M = M) : Holds (wal w 5 (M.map bv)) (co M) (some ⟨w.heap.size, 0, none⟩) M.length M.length M :=
  ⟨rfl, Nat.le_refl _, can_of_red h, (Lies.newN w _ _).more (by simp [wal])⟩
theorem Holds.lit {w : World} {f : Nat → Bool} {A : Option Addr} {n c : Nat} {L : List UInt8} (h : Holds w f A n c L) (t : TypeId) (us : List Value) : Holds (wal w t us) f A n c L := h.below (below_wal _ _ _)
theorem same_lit {f : Nat → Bool} {A : Option Addr} {n c : Nat} {L M : List UInt8} {w : World} (h1 : Holds w f A n c L) (hM : red M = M) (e : ∀ i, f i = co M i) (hn : n ≤ 1000000) :
    Calls Try.prog 11 #[.slice A n c, .slice (some ⟨w.heap.size, 0, none⟩) M.length M.length] (wal w 5 (M.map bv)) fun e w' => e = .returned (.bool true) ∧ Below w.heap.size w w' := by
  have h := same_holds (h1.lit 5 (M.map bv)) (lit_holds w M hM) e hn
  refine h.mono ?_
  rintro e w' ⟨rfl, h3⟩
  exact ⟨rfl, (below_wal _ _ _).trans (h3.mono (by simp [wal]))⟩

/-! ### calls on results -/
theorem Holds.co_eq {w : World} {f : Nat → Bool} {A : Option Addr} {n c : Nat} {L : List UInt8} (h : Holds w f A n c L) : co L = f := funext h.can.co
theorem mul_holds {f g : Nat → Bool} {A A' : Option Addr} {n c n' c' : Nat} {L M : List UInt8} {w : World} (h1 : Holds w f A n c L) (h2 : Holds w g A' n' c' M) (hn : n ≤ 10000) (hn' : n' ≤ 10000) :
    Calls Try.prog 14 #[.slice A n c, .slice A' n' c'] w fun e w' => ∃ A n c L, e = .returned (.slice A n c) ∧ Holds w' (cv f g) A n c L ∧ Below w.heap.size w w' := by
  have h := mul_any A A' c c' L M w h1.lies h2.lies (by rw [h1.len]; exact hn) (by rw [h2.len]; exact hn')
  rw [h1.len, h2.len, h1.co_eq, h2.co_eq] at h
  exact h
theorem add_lit {A Ap : Option Addr} {c cp : Nat} {a p : List UInt8} {w : World} (ha : Lies w w.heap.size A (a.map bv)) (hp : Lies w w.heap.size Ap (p.map bv)) (hla : a.length ≤ 10000) (hlp : p.length ≤ 10000) (hpc : p.length ≤ cp) :
    Calls Try.prog 12 #[.slice A a.length c, .slice (some ⟨w.heap.size, 0, none⟩) 1 1] (w.alloc (.cells #[.slice Ap p.length cp] 24)) fun e w' => ∃ A n c L, e = .returned (.slice A n c) ∧
      Holds w' (fun i => co a i ^^ co p i) A n c L ∧ Below w.heap.size w w' := by
  have hb : Below w.heap.size w (w.alloc (.cells #[.slice Ap p.length cp] 24)) := (Below.refl _ w).alloc (Nat.le_refl _) _
  have hc : (w.alloc (.cells #[.slice Ap p.length cp] 24)).cell? ⟨w.heap.size, 0, none⟩ = some (.slice Ap p.length cp) := Whole.cell (Whole.new w _ _) 0
  have hs : (w.alloc (.cells #[.slice Ap p.length cp] 24)).heap.size = w.heap.size + 1 := size_alloc _ _
  generalize w.alloc (.cells #[.slice Ap p.length cp] 24) = w1 at *
  refine (add_any A Ap c cp 1 ⟨w.heap.size, 0, none⟩ a p w1 ((ha.below hb).more hb.size) ((hp.below hb).more hb.size) (by rw [hs]; exact Nat.lt_succ_self _) hc hla hlp hpc).mono ?_
  rintro e w' ⟨A', n', c', L, rfl, h1, h2⟩
  exact ⟨A', n', c', L, rfl, h1, hb.trans (h2.mono hb.size)⟩
theorem add_holds {f g : Nat → Bool} {A A' : Option Addr} {n c n' c' : Nat} {L M : List UInt8} {w : World} (h1 : Holds w f A n c L) (h2 : Holds w g A' n' c' M) (hn : n ≤ 10000) (hn' : n' ≤ 10000) :
    Calls Try.prog 12 #[.slice A n c, .slice (some ⟨w.heap.size, 0, none⟩) 1 1] (w.alloc (.cells #[.slice A' n' c'] 24)) fun e w' => ∃ A n c L, e = .returned (.slice A n c) ∧
      Holds w' (fun i => f i ^^ g i) A n c L ∧ Below w.heap.size w w' := by
  have h := add_lit (c := c) (cp := c') h1.lies h2.lies (by rw [h1.len]; exact hn) (by rw [h2.len]; exact hn') (by rw [h2.len]; exact h2.cap)
  rw [h1.len, h2.len, h1.co_eq, h2.co_eq] at h
  exact h
theorem mod_holds {f : Nat → Bool} {A A' : Option Addr} {n c c' d : Nat} {L g : List UInt8} {w : World} (h1 : Holds w f A n c L) (hg : Lies w w.heap.size A' (g.map bv)) (hn : n ≤ 10000) (hlg : g.length ≤ 10000) (hd : rl g = d + 1) :
    Calls Try.prog 9 #[.slice A n c, .slice A' g.length c'] w fun e w' => ∃ R A n c L, e = .returned (.tuple #[.slice A n c, .bool true]) ∧
      Rem f (co g) d R ∧ Holds w' R A n c L ∧ Below w.heap.size w w' := by
  have h := mod_any A A' c c' d L g w h1.lies hg (by rw [h1.len]; exact hn) hlg hd
  rw [h1.len, h1.co_eq] at h
  exact h

/-! ### awake -/
theorem rem_aw : Rem (co [0, 0, 1]) (co [1, 1]) 1 (co [1]) := by
  refine ⟨⟨co [1, 1], co_ends _, fun i => ?_⟩, fun i hi => co_out hi⟩
  by_cases h : i < 3
  · have : ∀ j : Fin 3, co [0, 0, 1] j.val = (cv (co [1, 1]) (co [1, 1]) j.val ^^ co [1] j.val) := by decide
    exact this ⟨i, h⟩
  · rw [co_out (by simp; omega), co_out (l := [1]) (by simp; omega), cv_above (m := 2) (n := 2) (fun i hi => co_out hi) (fun i hi => co_out hi) (by omega)]
    rfl
theorem aw_mod1 (w : World) (A : Option Addr) (c : Nat) (h : Lies w w.heap.size A (([1, 1] : List UInt8).map bv)) :
    Calls Try.prog 9 #[.slice (some ⟨w.heap.size, 0, none⟩) 3 3, .slice A 2 c] (w.alloc (.cells #[.int .u8 0, .int .u8 0, .int .u8 1] 5)) fun e w' =>
      ∃ A n c L, e = .returned (.tuple #[.slice A n c, .bool true]) ∧ Holds w' (co [1]) A n c L ∧ Below w.heap.size w w' := by
  have h0 := mod_any (some ⟨w.heap.size, 0, none⟩) A 3 c 1 [0, 0, 1] [1, 1] (wal w 5 (([0, 0, 1] : List UInt8).map bv)) ((Lies.newN w _ _).more (by simp [wal])) ((h.alloc (Nat.le_refl _) _).more (by simp [wal])) (by decide) (by decide) (by decide)
  refine h0.mono ?_
  rintro e w' ⟨R, A', n', c', L, rfl, h1, h2, h3⟩
  exact ⟨A', n', c', L, rfl, h2.congr (Rem.uniq (by decide) (fun i hi => co_out hi) h1 rem_aw), (below_wal _ _ _).trans (h3.mono (by simp [wal]))⟩
theorem aw_mod2 (w : World) (A : Option Addr) (c : Nat) :
    Calls Try.prog 9 #[.slice A 2 c, .slice (some ⟨w.heap.size, 0, none⟩) 1 1] (w.alloc (.cells #[.int .u8 0] 5)) fun e w' =>
      e = .returned (.tuple #[.slice none 0 0, .bool false]) ∧ Below w.heap.size w w' := by
  have h0 := mod_zero A (some ⟨w.heap.size, 0, none⟩) c 1 (w.heap.size + 1) [1, 1] [0] (wal w 5 (([0] : List UInt8).map bv)) (Lies.newN w _ _) (by decide) (by decide)
  refine h0.mono ?_
  rintro e w' ⟨rfl, h1⟩
  exact ⟨rfl, by rw [← h1]; exact below_wal _ _ _⟩
theorem aw_of (w : World) : Calls Try.prog 22 #[.slice (some ⟨w.heap.size, 0, none⟩) 4 4] (w.alloc (.cells #[.int .u8 1, .int .u8 0, .int .u8 0, .int .u8 0] 5)) fun e w' =>
      ∃ A n c L, e = .returned (.slice A n c) ∧ Holds w' (ofB [1, 0, 0, 0]) A n c L ∧ Below w.heap.size w w' := by
  have h0 := of_any (some ⟨w.heap.size, 0, none⟩) 4 [1, 0, 0, 0] (wal w 5 (([1, 0, 0, 0] : List UInt8).map bv)) ((Lies.newN w _ _).more (by simp [wal])) (by decide)
  refine h0.mono ?_
  rintro e w' ⟨A', n', c', L, rfl, h2, h3⟩
  exact ⟨A', n', c', L, rfl, h2, (below_wal _ _ _).trans (h3.mono (by simp [wal]))⟩
theorem word_holds {f : Nat → Bool} {A : Option Addr} {n c : Nat} {L : List UInt8} {w : World} (h : Holds w f A n c L) (hn : n ≤ 32) :
    Calls Try.prog 23 #[.slice A n c] w fun e w' => e = .returned (.tuple #[.int .u32 (wd f 32 : Nat), .bool true]) ∧ w = w' := by
  have h0 := word_any A c w.heap.size L w h.lies (by rw [h.len]; omega) (by rw [h.can.rl, h.len]; exact hn)
  rw [h.len, h.co_eq] at h0
  exact h0
theorem degree_holds {f : Nat → Bool} {A : Option Addr} {n c : Nat} {L : List UInt8} {w : World} (h : Holds w f A n c L) (hn : n ≤ 10000) :
    Calls Try.prog 18 #[.slice A n c] w fun e w' => e = .returned (.int .i64 ((n : Int) - 1)) ∧ w = w' := by
  have h0 := degree_any A c w.heap.size L w h.lies (by rw [h.len]; omega)
  rw [h.can.rl, h.len] at h0
  exact h0
theorem gen_len : genL.length = 33 := bits8_len _ _
theorem Row.holds {w : World} {g : Nat} {l : List UInt8} {f : Nat → Bool} (h : Row w g l) (hc : Can f l) {n : Nat} (hn : l.length = n) : Holds w f (some ⟨g, 0, none⟩) n n l :=
  ⟨hn, Nat.le_refl _, hc, h.lies h.lt⟩
theorem aw_gen (w : World) : Calls Try.prog 26 #[] w fun e w' => ∃ A L, e = .returned (.slice A 33 33) ∧ Holds w' (co genL) A 33 33 L ∧ Below w.heap.size w w' := by
  refine (generator_any w).mono ?_
  rintro e w' ⟨rfl, h1, h2⟩
  exact ⟨_, _, rfl, h1.holds gen_can gen_len, h2⟩
theorem aw_ones (w : World) : Calls Try.prog 20 #[.int .i64 3] w fun e w' => ∃ A L, e = .returned (.slice A 3 3) ∧ Holds w' (co [1, 1, 1]) A 3 3 L ∧ Below w.heap.size w w' := by
  refine (ones_any 3 w (by omega) (by omega)).mono ?_
  rintro e w' ⟨rfl, h1, h2⟩
  exact ⟨_, [1, 1, 1], rfl, h1.holds (can_of_red (by decide)) rfl, h2⟩
theorem aw_deg (w : World) : Calls Try.prog 18 #[.slice none 0 0] w fun e w' => e = .returned (.int .i64 (-1)) ∧ w = w' := degree_any none 0 0 [] w Lies.nil (by decide)
theorem aw_word : wd (ofB [1, 0, 0, 0]) 32 = 1 := by decide
theorem aw_mul (i : Nat) : cv (co [1, 1]) (co [1, 1]) i = co [1, 0, 1] i := by
  by_cases h : i < 3
  · have : ∀ j : Fin 3, cv (co [1, 1]) (co [1, 1]) j.val = co [1, 0, 1] j.val := by decide
    exact this ⟨i, h⟩
  · rw [co_out (by simp; omega), cv_above (m := 2) (n := 2) (fun i hi => co_out hi) (fun i hi => co_out hi) (by omega)]
end Go.Proofs.Ytembggidhmdnfaa
