/- Layer 7: slices.Sort of a slice of uint16 that is in ascending order already: it writes nothing that was there; slices.Equal of two slices that hold the same. -/
import Derived.Test.YtemjiijfndnhbaaShapeD
import Derived.BigQuiet
namespace Go.Proofs.Ytemjiijfndnhbaa
open Go.RowKit

/-- ascending -/
def Mono (us : List UInt16) : Prop := ∀ (i j : Nat) (x y : UInt16), i ≤ j → us[i]? = some x → us[j]? = some y → ¬ y.toNat < x.toNat
theorem Lies.u16 {w : World} {B : Nat} {A : Option Addr} {l : List UInt16} (h : Lies w B A (l.map hv)) {k : Nat} (hk : k < l.length) :
    ∃ ad x, A = some ad ∧ ad.block < B ∧ Hid (l[k]? = some x) ∧ w.cell? (ad.add k) = some (.int .u16 (x.toNat : Int)) := h.of_map hk

theorem nan_any (x : Int) (w : World) : Calls Try.prog 45 #[.int .u16 x] w fun e w' => e = .returned (.bool false) ∧ w' = w := by
  have h : (x != x) = false := by simp
  go_enter Try.func45, Try.ntmps45
  go_wp2_with fail
  go_ret
  exact ⟨rfl, rfl⟩
theorem less_any (x y : Int) (w : World) : Calls Try.prog 35 #[.int .u16 x, .int .u16 y] w fun e w' => e = .returned (.bool (decide (x < y))) ∧ w' = w := by
  go_enter Try.func35, Try.ntmps35
  go_wp2_with fail
  refine (nan_any _ _).mono ?_
  rintro e w1 ⟨rfl, rfl⟩
  go_wp2_with fail
  go_ret
  exact ⟨rfl, rfl⟩

section
variable (A : Option Addr) (c B : Nat) (us : List UInt16) (w : World)

theorem order2_any (a b : Nat) (p : Value) (h : Lies w B A (us.map hv)) (hm : Mono us) (hab : a ≤ b) (hb : b < us.length) (_hn : us.length ≤ 1000) :
    Calls Try.prog 46 #[.slice A us.length c, .int .i64 (a : Int), .int .i64 (b : Int), p] w fun e w' => e = .returned (.tuple #[.int .i64 (a : Int), .int .i64 (b : Int)]) ∧ ∃ q, w' = w.drewN q := by
  obtain ⟨ad, x, rfl, _, hx, hc⟩ := h.u16 (k := a) (by omega)
  obtain ⟨ad', y, e', _, hy, hc'⟩ := h.u16 (k := b) (by omega)
  simp only [Option.some.injEq] at e'
  subst e'
  have hle := hm a b x y hab hx.out hy.out
  have hd : decide ((y.toNat : Int) < (x.toNat : Int)) = false := decide_eq_false (by omega)
  have hL := fun w => less_any y.toNat x.toNat w
  rw [hd] at hL
  have i1 : (a : Int) < (us.length : Int) := by omega
  have i2 : (b : Int) < (us.length : Int) := by omega
  clear hle hd h
  go_enter Try.func46, Try.ntmps46
  go_wp2_with fail
  go_quiet (first | (go_at_call 35; refine Calls.quiet_of_same (hL _)))
  go_wp2_with fail
  go_ret2
  exact ⟨rfl, _, rfl⟩
theorem median_any (a b d : Nat) (p : Value) (h : Lies w B A (us.map hv)) (hm : Mono us) (hab : a ≤ b) (hbd : b ≤ d) (hd : d < us.length) (_hn : us.length ≤ 1000) :
    Calls Try.prog 44 #[.slice A us.length c, .int .i64 (a : Int), .int .i64 (b : Int), .int .i64 (d : Int), p] w fun e w' => e = .returned (.int .i64 (b : Int)) ∧ ∃ q, w' = w.drewN q := by
  have h1 := fun w' (h' : Lies w' B A (us.map hv)) => order2_any A c B us w' a b p h' hm hab (by omega) _hn
  have h2 := fun w' (h' : Lies w' B A (us.map hv)) => order2_any A c B us w' b d p h' hm hbd hd _hn
  go_enter Try.func44, Try.ntmps44
  go_wp2_with fail
  refine (h1 _ h).mono ?_
  rintro e w1 ⟨rfl, q, rfl⟩
  go_wp2_with fail
  refine (h2 (w.drewN q) h).mono ?_
  rintro e w2 ⟨rfl, q2, rfl⟩
  go_wp2_with fail
  refine (h1 (w.drewN (q + q2)) h).mono ?_
  rintro e w3 ⟨rfl, q3, rfl⟩
  go_wp2_with fail
  go_ret
  exact ⟨rfl, q + q2 + q3, by simp⟩
end
section
variable (A : Option Addr) (c B : Nat) (us : List UInt16) (w : World)

theorem pivot_any (n : Nat) (h : Lies w B A (us.map hv)) (hm : Mono us) (hl : us.length = n) (hn : n = 19 ∨ n = 27) (hB : B ≤ w.heap.size) :
    Calls Try.prog 32 #[.slice A n c, .int .i64 0, .int .i64 (n : Int)] w fun e w' => ∃ m, e = .returned (.tuple #[.int .i64 m, .int .i64 1]) ∧ Below w.heap.size w w' := by
  have hM := fun a b d w' (h' : Lies w' B A (us.map hv)) (hab : a ≤ b) (hbd : b ≤ d) (hd : d < us.length) => median_any A c B us w' a b d (.pointer (some ⟨w.heap.size, 0, none⟩)) h' hm hab hbd hd (by omega)
  have hA := h.alloc hB (.cells #[.int .i64 0] 3)
  have hW := Whole.new w 3 #[.int .i64 0]
  have hb : Below w.heap.size w (w.alloc (.cells #[.int .i64 0] 3)) := (Below.refl _ _).alloc (Nat.le_refl _) _
  rw [hl] at hM
  rcases hn with rfl | rfl
  · have hM1 := hM 4 8 12 _ hA (by omega) (by omega) (by omega)
    clear hM
    go_enter Try.func32, Try.ntmps32
    go_wp2_with fail
    generalize w.alloc (.cells #[.int .i64 0] 3) = w1 at *
    refine hM1.mono ?_
    rintro e w2 ⟨rfl, q, rfl⟩
    have hc := (hW.drewN q).cell 0
    simp only [List.getElem?_toArray, List.getElem?_cons_zero] at hc
    go_wp2_with fail
    go_ret2
    exact ⟨_, rfl, below_drewN hb q⟩
  · have hM1 := hM 6 12 18 _ hA (by omega) (by omega) (by omega)
    clear hM
    go_enter Try.func32, Try.ntmps32
    go_wp2_with fail
    generalize w.alloc (.cells #[.int .i64 0] 3) = w1 at *
    refine hM1.mono ?_
    rintro e w2 ⟨rfl, q, rfl⟩
    have hc := (hW.drewN q).cell 0
    simp only [List.getElem?_toArray, List.getElem?_cons_zero] at hc
    go_wp2_with fail
    go_ret2
    exact ⟨_, rfl, below_drewN hb q⟩

set_option maxHeartbeats 1000000 in
theorem partial_any (n : Nat) (h : Lies w B A (us.map hv)) (hm : Mono us) (hl : us.length = n) (h2 : 2 ≤ n) (hn : n ≤ 1000) :
    Calls Try.prog 34 #[.slice A n c, .int .i64 0, .int .i64 (n : Int)] w fun e w' => e = .returned (.bool true) ∧ ∃ q, w' = w.drewN q := by
  go_enter Try.func34, Try.ntmps34
  go_wp2_with fail
  go_loopw [7, 8] (fun i j wr => i = .int .i64 1 ∧ j = .int .i64 0 ∧ ∃ q, wr = w.drewN q) (fun _ _ _ => 0)
  case atStart => exact ⟨rfl, rfl, 0, rfl⟩
  case round =>
    obtain ⟨rfl, rfl, q0, rfl⟩ := hrel
    go_wp2_with fail
    go_loopw [7] (fun i wr => ∃ k q : Nat, 1 ≤ k ∧ k ≤ n ∧ i = .int .i64 (k : Int) ∧ wr = w.drewN q) (fun i _ => n - (intOf i).toNat)
    case atStart => exact ⟨1, q0, by omega, by omega, rfl, rfl⟩
    case round =>
      obtain ⟨k, q, hk1, hkn, rfl, hwr⟩ := hrel
      have hr : Lies wr B A (us.map hv) := by rw [hwr]; exact h
      have HWr := Lib.hid hwr
      clear hwr
      by_cases hlt : k < n
      · obtain ⟨m, hmk⟩ : ∃ m, m + 1 = k := ⟨k - 1, by omega⟩
        obtain ⟨ad, x, rfl, _, hx, hc⟩ := hr.u16 (k := m) (by omega)
        obtain ⟨ad', y, e', _, hy, hc'⟩ := hr.u16 (k := k) (by omega)
        simp only [Option.some.injEq] at e'
        subst e'
        have hle := hm m k x y (by omega) hx.out hy.out
        have hd : decide ((y.toNat : Int) < (x.toNat : Int)) = false := decide_eq_false (by omega)
        have hL := fun w => less_any y.toNat x.toNat w
        rw [hd] at hL
        have i1 : (k : Int) < (n : Int) := by omega
        have i2 : (1 : Int) ≤ (k : Int) := by omega
        have i3 : (m : Int) < (n : Int) := by omega
        have i4 : IntKind.i64.wrap ((k : Int) - 1) = (m : Int) := by
          rw [show (k : Int) - 1 = (m : Int) by omega]
          rw [IntKind.wrap_i64]; omega
        clear hle hd
        go_wp2_with fail
        go_quiet (first | (go_at_call 35; refine Calls.quiet_of_same (hL _)))
        go_wp2_with fail
        go_roundw
        case rel => exact ⟨k + 1, q + nq, by omega, by omega, by go_num, by rw [HWr.out]; simp⟩
        case measure => simp [intOf]; omega
      · obtain rfl : k = n := by omega
        go_wp2_with fail
        go_quiet (fail)
        go_wp2_with fail
        go_ret
        exact ⟨rfl, q + nq, by rw [HWr.out]; simp⟩

theorem insertion_any (V : Value) :
    Calls Try.prog 29 #[V, .int .i64 0, .int .i64 0] w fun e w' => e = .returned (.tuple #[]) ∧ w' = w := by
  go_enter Try.func29, Try.ntmps29
  go_wp2_with fail
  go_loopw [6] (fun i wr => i = .int .i64 1 ∧ ∃ q, wr = w.drewN q ∧ q = 0) (fun _ _ => 0)
  case atStart => exact ⟨rfl, 0, rfl, rfl⟩
  case round =>
    obtain ⟨rfl, q, rfl, rfl⟩ := hrel
    go_wp2_with fail
    go_end0
    exact ⟨rfl, rfl⟩

set_option maxHeartbeats 1000000 in
theorem pdq_any (n : Nat) (h : Lies w B A (us.map hv)) (hm : Mono us) (hl : us.length = n) (hn : n = 19 ∨ n = 27) (hB : B ≤ w.heap.size) :
    Calls Try.prog 25 #[.slice A n c, .int .i64 0, .int .i64 (n : Int), .int .i64 5] w fun e w' => e = .returned (.tuple #[]) ∧ Below w.heap.size w w' := by
  have hP := pivot_any A c B us w n h hm hl hn hB
  have hI := fun w' (h' : Lies w' B A (us.map hv)) => partial_any A c B us w' n h' hm hl (by omega) (by omega)
  have h12 : (12 : Int) < (n : Int) := by omega
  have h28 : (n : Int) < 28 := by omega
  have HN := Lib.hid hn
  clear hn
  go_enter Try.func25, Try.ntmps25
  go_wp2_with fail
  go_loopw [1, 2, 3, 8, 9] (fun a b l x y wr => a = .int .i64 0 ∧ b = .int .i64 (n : Int) ∧ l = .int .i64 5 ∧ x = .bool true ∧ y = .bool true ∧ ∃ q, wr = w.drewN q ∧ q = 0) (fun _ _ _ _ _ _ => 0)
  case atStart => exact ⟨rfl, rfl, rfl, rfl, rfl, 0, rfl, rfl⟩
  case round =>
    obtain ⟨rfl, rfl, rfl, rfl, rfl, q, rfl, rfl⟩ := hrel
    go_wp2_with fail
    refine (hP : Calls _ _ _ (w.drewN 0) _).mono ?_
    rintro e w1 ⟨m, rfl, b1⟩
    go_wp2_with fail
    refine (hI w1 (h.keep fun p hp => b1.cell (by omega))).mono ?_
    rintro e w2 ⟨rfl, q2, rfl⟩
    go_wp2_with fail
    (try simp only [Exit.inBlock, Exit.then])
    refine bodyPost_ret (results_none rfl _ _ _) rfl ?_
    exact ⟨rfl, below_drewN b1 q2⟩
theorem pdq_none (V : Value) : Calls Try.prog 25 #[V, .int .i64 0, .int .i64 0, .int .i64 0] w fun e w' => e = .returned (.tuple #[]) ∧ w' = w := by
  have hI := fun w => insertion_any w V
  go_enter Try.func25, Try.ntmps25
  go_wp2_with fail
  go_loopw [1, 2, 3, 8, 9] (fun a b l x y wr => a = .int .i64 0 ∧ b = .int .i64 0 ∧ l = .int .i64 0 ∧ x = .bool true ∧ y = .bool true ∧ ∃ q, wr = w.drewN q ∧ q = 0) (fun _ _ _ _ _ _ => 0)
  case atStart => exact ⟨rfl, rfl, rfl, rfl, rfl, 0, rfl, rfl⟩
  case round =>
    obtain ⟨rfl, rfl, rfl, rfl, rfl, q, rfl, rfl⟩ := hrel
    go_wp2_with fail
    refine (hI _).mono ?_
    rintro e w1 ⟨rfl, rfl⟩
    go_wp2_with fail
    (try simp only [Exit.inBlock, Exit.then])
    refine bodyPost_ret (results_none rfl _ _ _) rfl ?_
    exact ⟨rfl, rfl⟩
set_option maxRecDepth 100000 in
theorem len64_27 : Calls Try.prog 39 #[.int .u64 27] w fun e w' => e = .returned (.int .i64 5) ∧ w' = w := by
  go_enter Try.func39, Try.ntmps39
  go_wp2_with fail
  go_ret
  exact ⟨by kernel_rfl, rfl⟩
set_option maxRecDepth 100000 in
theorem len64_19 : Calls Try.prog 39 #[.int .u64 19] w fun e w' => e = .returned (.int .i64 5) ∧ w' = w := by
  go_enter Try.func39, Try.ntmps39
  go_wp2_with fail
  go_ret
  exact ⟨by kernel_rfl, rfl⟩
set_option maxRecDepth 100000 in
theorem len64_0 : Calls Try.prog 39 #[.int .u64 0] w fun e w' => e = .returned (.int .i64 0) ∧ w' = w := by
  go_enter Try.func39, Try.ntmps39
  go_wp2_with fail
  go_ret
  exact ⟨by kernel_rfl, rfl⟩
theorem blen_any (n k : Int) (h : ∀ w, Calls Try.prog 39 #[.int .u64 n] w fun e w' => e = .returned (.int .i64 k) ∧ w' = w) (_hn : 0 ≤ n ∧ n < 100) :
    Calls Try.prog 26 #[.int .u64 n] w fun e w' => e = .returned (.int .i64 k) ∧ w' = w := by
  go_enter Try.func26, Try.ntmps26
  go_wp2_with fail
  refine (h _).mono ?_
  rintro e w1 ⟨rfl, rfl⟩
  go_wp2_with fail
  go_ret
  exact ⟨rfl, rfl⟩
theorem sort_any (n : Nat) (h : Lies w B A (us.map hv)) (hm : Mono us) (hl : us.length = n) (hn : n = 19 ∨ n = 27) (hB : B ≤ w.heap.size) :
    Calls Try.prog 14 #[.slice A n c] w fun e w' => e = .returned (.tuple #[]) ∧ Below w.heap.size w w' := by
  have hP := pdq_any A c B us w n h hm hl hn hB
  have hL : ∀ w, Calls Try.prog 26 #[.int .u64 (n : Int)] w fun e w' => e = .returned (.int .i64 5) ∧ w' = w := by
    rcases hn with rfl | rfl
    · exact fun w => blen_any w 19 5 (fun w => len64_19 w) (by omega)
    · exact fun w => blen_any w 27 5 (fun w => len64_27 w) (by omega)
  have h28 : (n : Int) < 28 := by omega
  have HN := Lib.hid hn
  clear hn
  go_enter Try.func14, Try.ntmps14
  go_wp2_with fail
  refine (hL _).mono ?_
  rintro e w1 ⟨rfl, rfl⟩
  go_wp2_with fail
  refine hP.mono ?_
  rintro e w2 ⟨rfl, b2⟩
  go_wp2_with fail
  go_end0
  exact ⟨rfl, b2⟩
theorem sort_none : Calls Try.prog 14 #[.slice A 0 c] w fun e w' => e = .returned (.tuple #[]) ∧ Below w.heap.size w w' := by
  have hP := pdq_none w (.slice A 0 c)
  have hL : ∀ w, Calls Try.prog 26 #[.int .u64 0] w fun e w' => e = .returned (.int .i64 0) ∧ w' = w := fun w => blen_any w 0 0 (fun w => len64_0 w) (by omega)
  go_enter Try.func14, Try.ntmps14
  go_wp2_with fail
  refine (hL _).mono ?_
  rintro e w1 ⟨rfl, rfl⟩
  go_wp2_with fail
  refine hP.mono ?_
  rintro e w2 ⟨rfl, rfl⟩
  go_wp2_with fail
  go_end0
  exact ⟨rfl, Below.refl _ _⟩
theorem equal16_any (A' : Option Addr) (c' : Nat) (n : Nat) (h : Lies w B A (us.map hv)) (h' : Lies w B A' (us.map hv)) (hl : us.length = n) (hn : n ≤ 1000) :
    Calls Try.prog 15 #[.slice A n c, .slice A' n c'] w fun e w' => e = .returned (.bool true) ∧ ∃ q, w' = w.drewN q := by
  go_enter Try.func15, Try.ntmps15
  go_wp2_with fail
  go_loopw [13] (fun i wr => ∃ k q : Nat, k ≤ n ∧ i = .int .i64 (k : Int) ∧ wr = w.drewN q) (fun i _ => n - (intOf i).toNat)
  case atStart => exact ⟨0, 0, by omega, rfl, rfl⟩
  case round =>
    obtain ⟨k, q, hk, rfl, rfl⟩ := hrel
    by_cases hlt : k < n
    · obtain ⟨ad, x, rfl, _, hx, hc⟩ := h.u16 (k := k) (by omega)
      obtain ⟨ad', y, rfl, _, hy, hc'⟩ := h'.u16 (k := k) (by omega)
      obtain rfl : x = y := by have := hy.out; rw [hx.out] at this; cases this; rfl
      have i1 : (k : Int) < (n : Int) := by omega
      have i3 : (k : Int) ≤ 1000 := by omega
      go_wp2_with fail
      go_quiet (fail)
      go_wp2_with fail
      go_roundw
      case rel => exact ⟨k + 1, _, by omega, by go_num, rfl⟩
      case measure => simp [intOf]; omega
    · obtain rfl : k = n := by omega
      go_wp2_with fail
      go_ret
      exact ⟨rfl, _, rfl⟩
end
end Go.Proofs.Ytemjiijfndnhbaa
