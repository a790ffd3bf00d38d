/- Layer 4, package poly: rows of bits that the call owns; Reduce, the powers, and adding powers, for whatever lists. -/
import Derived.Test.YtgjedidpimncaaaPolyB
namespace Go.Proofs.Ytgjedidpimncaaa
open Go.RowKit

/-- a row that fills its block -/
theorem own_whole {w : World} {base e g n : Nat} {xs : List Value} (h : w.ownsRow base e 1 (.slice (some ⟨g, 0, none⟩) n n) n xs) : Whole w g e xs.toArray ∧ base ≤ g := by
  rcases h.2 with ⟨h1, _⟩ | ⟨g', cap, cur, h1, h2, h3, _, _, h6, h7⟩
  · simp at h1
  · simp only [Value.slice.injEq, Option.some.injEq, Addr.mk.injEq, and_true, true_and] at h1
    obtain ⟨rfl, rfl⟩ := h1
    rw [List.take_of_length_le (by simp; omega)] at h7
    subst h7
    exact ⟨h3, h2⟩
theorem whole_own {w : World} {base e g n : Nat} {xs : List Value} (h : Whole w g e xs.toArray) (hb : base ≤ g) (hn : xs.length = n) (hm : n ≤ maxLen) : w.ownsRow base e 1 (.slice (some ⟨g, 0, none⟩) n n) n xs :=
  ⟨by omega, .inr ⟨g, n, xs.toArray, rfl, hb, h, Nat.le_refl _, hm, by simp; omega, by rw [List.take_of_length_le (by simp; omega)]⟩⟩

/-- the block g holds the bytes l, and nothing else -/
abbrev Row (w : World) (g : Nat) (l : List UInt8) : Prop := Whole w g 5 (l.map bv).toArray
theorem Row.byte {w : World} {g : Nat} {l : List UInt8} (h : Row w g l) {i : Nat} {x : UInt8} (hx : l[i]? = some x) : w.cell? ⟨g, i, none⟩ = some (.int .u8 (x.toNat : Int)) := by
  have := Whole.cell h i
  simpa [hx] using this
theorem Row.store {w : World} {g : Nat} {l : List UInt8} (h : Row w g l) (i : Nat) (x : UInt8) : Row (w.setCell ⟨g, i, none⟩ (.int .u8 (x.toNat : Int))) g (l.set i x) := by
  have := Whole.set_ h i (bv x)
  unfold Row
  rw [List.map_set, ← List.setIfInBounds_toArray]
  exact this
theorem Row.lies {w : World} {g B : Nat} {l : List UInt8} (h : Row w g l) (hB : g < B) : Lies w B (some ⟨g, 0, none⟩) (l.map bv) := fun _ =>
  ⟨_, rfl, hB, fun j u hu => by rw [add_row, Whole.cell h]; simpa using hu⟩
theorem Row.lt {w : World} {g : Nat} {l : List UInt8} (h : Row w g l) : g < w.heap.size := Whole.lt h

theorem wpList_make_zeros (w : World) {ops : Array Oper} {rest : List Oper} {o : Oper} {a : Act} {Q : Exit → Act → World → Prop}
    (hg : o.guard = none) (l c : Operand) (t : TypeId) (hop : o.op = Op.makeSlice t l c) (ht : Try.prog.underlying t = some (.slice 5))
    (L : Int) (n : Nat) (hl : a.eval l = .int .i64 L) (hc : a.eval c = .int .i64 L) (hL : L = (n : Int)) (hn : n ≤ 10000000)
    (hK : ∀ w', Row w' w.heap.size (bits8 (fun _ => false) n) → Below w.heap.size w w' → wpList Try.prog ops Q rest (a.put o.dst (.slice (some ⟨w.heap.size, 0, none⟩) n n)) w') :
    wpList Try.prog ops Q (o :: rest) a w := by
  obtain ⟨i0, hi, hz0, hz1, hz2⟩ := info_parts u8info
  refine wpList_make_full w hg l c t hop w.heap.size 5 i0 (.int .u8 0) 1 ht hi hz0 hz1 .i64 .i64 L L n hl hc hL hL (by rw [hz2]; omega) (by unfold maxLen; omega) (Nat.le_refl _) ?_
  intro w' hown hgrow
  refine hK w' ?_ ((Below.refl _ w).grown hgrow (Nat.le_refl _) (by simp))
  have h1 := (own_whole hown).1
  unfold Row
  rw [bits8_zero, List.map_replicate, show bv 0 = Value.int .u8 0 from rfl]
  simpa [Whole, toList_madeCells_one, Value.cells] using h1

theorem reduce_step {l : List UInt8} {n k : Nat} {x : UInt8} (h : l[k]? = some x) : (bits8 (fun i => decide (i < k) && co l i) n).set k (b8 (odd x)) = bits8 (fun i => decide (i < k + 1) && co l i) n := by
  rw [bits8_set]
  refine bits8_congr fun i _ => ?_
  unfold upd
  by_cases e : i = k
  · subst e
    rw [if_pos rfl, co_some h]
    simp
  · rw [if_neg e]
    rw [show decide (i < k + 1) = decide (i < k) from decide_eq_decide.2 (by omega)]

theorem reduce_any (A : Option Addr) (c : Nat) (l : List UInt8) (w : World) (h : Lies w w.heap.size A (l.map bv)) (hn : l.length ≤ 100000) :
    Calls Try.prog 41 #[.slice A l.length c] w fun e w' => e = .returned (.slice (some ⟨w.heap.size, 0, none⟩) (rl l) (rl l)) ∧
      Row w' w.heap.size (red l) ∧ Below w.heap.size w w' := by
  have hD := fun w' h' => degree_any A c w.heap.size l w' h' hn
  have hr := rl_le l
  have HR : Hid (red l = bits8 (co l) (rl l)) := rfl
  generalize rl l = n at *
  go_enter Try.func41, Try.ntmps41
  go_wp2_with (first
    | (go_at_call 40; refine (hD _ h).mono ?_; rintro e w' ⟨rfl, rfl⟩)
    | (at_make; refine wpList_make_zeros _ rfl (.tmp 7) (.tmp 7) 50 rfl Try.underlying50 _ n rfl rfl (by omega) (by omega) ?_; intro w1 hrow hb1))
  go_loopw [11] (fun i wr => ∃ k : Nat, k ≤ n ∧ i = .int .i64 k ∧ Row wr w.heap.size (bits8 (fun i => decide (i < k) && co l i) n) ∧ Below w.heap.size w wr) (fun i _ => n - (intOf i).toNat)
  case atStart => exact ⟨0, Nat.zero_le _, rfl, by simpa using hrow, hb1⟩
  case round =>
    obtain ⟨k, hk, rfl, hrk, hbk⟩ := hrel
    by_cases hlt : k < n
    · obtain ⟨ad, x, rfl, hbl, hx, hcx⟩ := (h.below hbk).byte (k := k) (by omega)
      have hc2 := hrk.byte (bits8_at _ hlt)
      have hf2 := Whole.frozen hrk k
      have HS := Lib.hid (hrk.store k (b8 (odd x)))
      rw [reduce_step hx.out] at HS
      have hbk2 := hbk.setCell (p := ⟨w.heap.size, k, none⟩) (Nat.le_refl _) (.int .u8 ((b8 (odd x)).toNat : Int))
      have hO := fun w => one_any x w
      clear hrk
      go_wp2_with (go_at_call 42; refine (hO _).mono ?_; rintro e w' ⟨rfl, rfl⟩)
      go_roundw
      case rel => exact ⟨k + 1, by omega, by go_num, HS.out, hbk2⟩
      case measure => simp [intOf]; omega
    · have HE : Hid (bits8 (fun i => decide (i < k) && co l i) n = red l) := by
        rw [Hid, HR.out]
        exact bits8_congr fun i hi => by rw [decide_eq_true (by omega)]; rfl
      have H := Lib.hid hrk
      clear hrk
      go_wp2
      go_ret
      exact ⟨rfl, by rw [← HE.out]; exact H.out, hbk⟩
end Go.Proofs.Ytgjedidpimncaaa
