/- Layer 1, package wire: what a cursor's methods return, for whatever cursor and arguments. -/
import Derived.Test.YtdnilbebdgohnaaGreatDoorWireA

namespace Go.Proofs.YtdnilbebdgohnaaGreatDoor
open Go.RowKit

/-- A cursor at block g: it reads the bytes bs, of which k are read. -/
structure Rdr (w : World) (base g : Nat) (A : Option Addr) (c : Nat) (bs : List UInt8) (k : Nat) : Prop where
  whole : Whole w g 136 #[.slice A bs.length c, .int .i64 (k : Int)]
  own : w.ownsRow base 5 1 (.slice A bs.length c) bs.length (bs.map bv)
  le : k ≤ bs.length
  base_le : base ≤ g
  small : bs.length ≤ 140737488355328

section
variable {w w' : World} {base g c k : Nat} {A : Option Addr} {bs : List UInt8}
theorem Rdr.ne (h : Rdr w base g A c bs k) : (Value.slice A bs.length c).ownBlock ≠ some g := by
  rcases h.own.2 with ⟨h1, _⟩ | ⟨g', cap, cur, h1, _, h3, _⟩
  · rw [h1]; simp [Value.ownBlock]
  · rw [h1]
    intro he
    have : g' = g := by simpa [Value.ownBlock] using he
    subst this
    have hw := h.whole
    unfold Whole at hw
    rw [hw] at h3
    simp at h3
theorem Rdr.kept (h : Rdr w base g A c bs k) {row : Option Nat} (hg : w.grownBy w' row) (h1 : some g ≠ row) (h2 : (Value.slice A bs.length c).ownBlock = none ∨ (Value.slice A bs.length c).ownBlock ≠ row) : Rdr w' base g A c bs k :=
  ⟨h.whole.grown hg h1, h.own.kept hg h2, h.le, h.base_le, h.small⟩
theorem Rdr.below (h : Rdr w base g A c bs k) (hb : Below w.heap.size w w') : Rdr w' base g A c bs k :=
  ⟨h.whole.below hb h.whole.lt, own_below' h.own hb, h.le, h.base_le, h.small⟩
theorem Rdr.moved (h : Rdr w base g A c bs k) {k' : Nat} (hk : k' ≤ bs.length) : Rdr (w.setCell ⟨g, 1, none⟩ (.int .i64 (k' : Int))) base g A c bs k' := by
  refine ⟨h.whole.set_ 1 _, h.own.kept (row := some g) ⟨rfl, rfl, rfl, by simp [World.setCell], fun i _ hi => Below.heap_setCell w _ _ i (fun e => hi (by rw [e]))⟩ (.inr h.ne), hk, h.base_le, h.small⟩
theorem Rdr.cells (h : Rdr w base g A c bs k) : w.cell? ⟨g, 0, none⟩ = some (.slice A bs.length c) ∧ w.cell? ⟨g, 1, none⟩ = some (.int .i64 (k : Int)) ∧ w.frozen? ⟨g, 1, none⟩ = false :=
  ⟨by rw [h.whole.cell]; rfl, by rw [h.whole.cell]; rfl, h.whole.frozen 1⟩
theorem grown_set (w : World) (g i : Nat) (u : Value) : w.grownBy (w.setCell ⟨g, i, none⟩ u) (some g) :=
  ⟨rfl, rfl, rfl, by simp [World.setCell], fun j _ hj => Below.heap_setCell w _ _ j (fun e => hj (by rw [e]))⟩
end

theorem left_any {w : World} {base g c k : Nat} {A : Option Addr} {bs : List UInt8} (h : Rdr w base g A c bs k) :
    Calls Tryz.prog 61 #[.pointer (some ⟨g, 0, none⟩)] w fun e w' => e = .returned (.int .i64 ((bs.length : Int) - (k : Int))) ∧ ∃ q, w' = w.drewN q := by
  obtain ⟨h0, h1, h2⟩ := h.cells
  have hl := h.le
  have hs := h.small
  go_enter Tryz.func61, Tryz.ntmps61
  go_wp2
  go_quiet (fail)
  go_wp2
  go_ret
  exact ⟨rfl, nq, rfl⟩

/-! ### ahead -/
theorem ahead_no {w : World} {base g c k : Nat} {A : Option Addr} {bs : List UInt8} (h : Rdr w base g A c bs k) (n : Int) (hn : ¬ (0 ≤ n ∧ n ≤ (bs.length : Int) - (k : Int))) :
    Calls Tryz.prog 81 #[.pointer (some ⟨g, 0, none⟩), .int .i64 n] w fun e w' => e = .returned (.tuple #[.slice none 0 0, .bool false]) ∧ ∃ q, w' = w.drewN q := by
  have hl := h.le
  have hs := h.small
  by_cases h0 : n < 0
  · go_enter Tryz.func81, Tryz.ntmps81
    go_wp2_with fail
    go_ret2
    exact ⟨rfl, 0, rfl⟩
  · have hgt : (bs.length : Int) - (k : Int) < n := by omega
    go_enter Tryz.func81, Tryz.ntmps81
    go_wp2_with (go_at_call 61; refine (left_any h).mono ?_; rintro e w' ⟨rfl, q, rfl⟩)
    go_ret2
    exact ⟨rfl, q, rfl⟩
theorem ahead_yes {w : World} {base g c k : Nat} {A : Option Addr} {bs : List UInt8} (h : Rdr w base g A c bs k) (n : Nat) (hn : k + n ≤ bs.length) :
    Calls Tryz.prog 81 #[.pointer (some ⟨g, 0, none⟩), .int .i64 (n : Int)] w fun e w' => ∃ A', e = .returned (.tuple #[.slice A' n n, .bool true]) ∧
      ∃ q, w' = w.drewN q ∧ ∀ W : World, W.ownsRow base 5 1 (.slice A bs.length c) bs.length (bs.map bv) → Lies W W.heap.size A' (((bs.drop k).take n).map bv) := by
  have hl := h.le
  have hs := h.small
  have hcap := own_cap h.own
  obtain ⟨c0, c1, c2⟩ := h.cells
  unfold maxLen at hcap
  have hc1 := hcap.2.1
  have hc2 := hcap.2.2
  clear hcap
  by_cases h0 : n = 0
  · subst h0
    go_enter Tryz.func81, Tryz.ntmps81
    go_wp2_with (go_at_call 61; refine (left_any h).mono ?_; rintro e w' ⟨rfl, q, rfl⟩)
    go_quiet (fail)
    go_wp2
    go_ret2
    exact ⟨A, rfl, q + nq, by simp, fun W _ => by rw [List.take_zero]; exact Lies.nil⟩
  · have e1 : ¬ k + n = k := by omega
    have e2 : (n : Int) ≤ (bs.length : Int) - (k : Int) := by omega
    go_enter Tryz.func81, Tryz.ntmps81
    go_wp2_with (go_at_call 61; refine (left_any h).mono ?_; rintro e w' ⟨rfl, q, rfl⟩)
    go_quiet (fail)
    go_wp2
    go_ret2
    refine ⟨A.map (fun x => x.add k), ?_, q + nq, by simp, ?_⟩
    · show Ending.returned (.tuple #[.slice _ (k + n - k) (k + n - k), .bool true]) = _
      rw [Nat.add_sub_cancel_left]
    intro W hW
    have hl2 := ((Lies.own hW).drop (k := k) (c := bs.length + 1) (by simp)).take n
    rw [if_neg (by omega), ← List.map_drop, ← List.map_take] at hl2
    exact hl2

/-! ### Peek, Number -/
theorem number_nil (w : World) : Calls Tryz.prog 82 #[.slice none 0 0] w fun e w' => e = .returned (.int .u32 0) ∧ w = w' :=
  number_any none 0 0 ([] : List UInt8) w Lies.nil (Nat.zero_le _)
theorem peek_bad (p : Option Addr) (n : Int) (hn : widthB n = false) (w : World) : Calls Tryz.prog 73 #[.pointer p, .int .i64 n] w fun e w' => e = .returned (.tuple #[.int .u32 0, .bool false]) ∧ w = w' := by
  go_enter Tryz.func73, Tryz.ntmps73
  go_wp2_with (go_at_call 75; refine (isWidth_any _ _).mono ?_; rintro e w' ⟨rfl, rfl⟩)
  go_ret2
  exact ⟨rfl, rfl⟩
theorem peek_no {w : World} {base g c k : Nat} {A : Option Addr} {bs : List UInt8} (h : Rdr w base g A c bs k) (n : Int) (hn : ¬ (widthB n = true ∧ n ≤ (bs.length : Int) - (k : Int))) :
    Calls Tryz.prog 73 #[.pointer (some ⟨g, 0, none⟩), .int .i64 n] w fun e w' => e = .returned (.tuple #[.int .u32 0, .bool false]) ∧ ∃ q, w' = w.drewN q := by
  by_cases hw : widthB n = true
  · have hno : ¬ (0 ≤ n ∧ n ≤ (bs.length : Int) - (k : Int)) := fun hh => hn ⟨hw, hh.2⟩
    have hah := ahead_no h n hno
    clear hno hn
    go_enter Tryz.func73, Tryz.ntmps73
    go_wp2_with (first | (go_at_call 75; refine (isWidth_any _ _).mono ?_; rintro e w' ⟨rfl, rfl⟩) | (go_at_call 81; refine hah.mono ?_; rintro e w' ⟨rfl, q, rfl⟩) | (go_at_call 82; refine (number_nil _).mono ?_; rintro e w' ⟨rfl, rfl⟩))
    go_ret2
    exact ⟨rfl, _, rfl⟩
  · exact (peek_bad _ n (by simpa using hw) w).mono fun e w' ⟨h1, h2⟩ => ⟨h1, 0, h2.symm⟩
theorem peek_yes {w : World} {base g c k : Nat} {A : Option Addr} {bs : List UInt8} (h : Rdr w base g A c bs k) (n : Nat) (hw : widthB n = true) (hn : k + n ≤ bs.length) :
    Calls Tryz.prog 73 #[.pointer (some ⟨g, 0, none⟩), .int .i64 (n : Int)] w fun e w' => e = .returned (.tuple #[.int .u32 (numOf ((bs.drop k).take n) : Nat), .bool true]) ∧ ∃ q, w' = w.drewN q := by
  have hs := h.small
  have hlen : ((bs.drop k).take n).length = n := by rw [List.length_take, List.length_drop]; omega
  have hah := ahead_yes h n hn
  have hown := Lib.hid h.own
  have hnum : ∀ A (w2 : World), Lies w2 w2.heap.size A (((bs.drop k).take n).map bv) → Calls Tryz.prog 82 #[.slice A n n] w2 fun e w' => e = .returned (.int .u32 (numOf ((bs.drop k).take n) : Nat)) ∧ w2 = w' := by
    intro A w2 hl
    have := number_any A n w2.heap.size _ w2 hl (by rw [hlen]; unfold maxLen; omega)
    rw [hlen] at this
    exact this
  generalize (bs.drop k).take n = l at *
  have HL := Lib.hid hlen
  clear hlen
  go_enter Tryz.func73, Tryz.ntmps73
  go_wp2_with (first | (go_at_call 75; refine (isWidth_any _ _).mono ?_; rintro e w' ⟨rfl, rfl⟩) | (go_at_call 81; refine hah.mono ?_; rintro e w' ⟨A', rfl, q, rfl, hlies⟩) | (go_at_call 82; refine (hnum _ _ (hlies (w.drewN q) hown.out)).mono ?_; rintro e w' ⟨rfl, rfl⟩))
  go_ret2
  exact ⟨rfl, _, rfl⟩
end Go.Proofs.YtdnilbebdgohnaaGreatDoor

