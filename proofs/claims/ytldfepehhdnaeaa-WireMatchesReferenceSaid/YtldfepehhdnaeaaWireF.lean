/- Layer 1, the reference package and what the statements compare with: Same, Equal, Right, Number, Numbers, Put, Join. -/
import Derived.Test.YtldfepehhdnaeaaWireE
namespace Go.Proofs.Ytldfepehhdnaeaa
open Go.RowKit

theorem Lies.drewN {w : World} {B : Nat} {A : Option Addr} {xs : List Value} (h : Lies w B A xs) (q : Nat) : Lies (w.drewN q) B A xs := h

theorem ne_of_at {α : Type} {a b : List α} {k : Nat} {x y : α} (h1 : a[k]? = some x) (h2 : b[k]? = some y) (h : x ≠ y) : a ≠ b := by
  intro e
  subst e
  rw [h1] at h2
  exact h (Option.some.inj h2)
theorem take_eq_snoc {α : Type} {a b : List α} {k : Nat} {x y : α} (h1 : a[k]? = some x) (h2 : b[k]? = some y) (he : a.take k = b.take k) (h : x = y) : a.take (k + 1) = b.take (k + 1) := by
  rw [take_some h1, take_some h2, he, h]

theorem same_any (A A' : Option Addr) (c c' B : Nat) (a b : List UInt8) (w : World) (ha : Lies w B A (a.map bv)) (hb : Lies w B A' (b.map bv)) (hn : a.length ≤ maxLen) :
    Calls Try.prog 10 #[.slice A a.length c, .slice A' b.length c'] w fun e w' => e = .returned (.bool (decide (a = b))) ∧ ∃ q, w' = w.drewN q := by
  unfold maxLen at hn
  by_cases hl : a.length = b.length
  · have hneq : ((a.length : Int) != (b.length : Int)) = false := by rw [bne_eq_false_iff_eq]; omega
    have hlb : b.length ≤ a.length := by omega
    have hlb' : a.length ≤ b.length := by omega
    clear hl
    go_enter Try.func10, Try.ntmps10
    go_wp2
    go_loopw [5] (fun i wr => ∃ k q : Nat, k ≤ a.length ∧ i = .int .i64 k ∧ Hid (a.take k = b.take k) ∧ wr = w.drewN q) (fun i _ => a.length - (intOf i).toNat)
    case atStart => exact ⟨0, 0, Nat.zero_le _, rfl, rfl, rfl⟩
    case round =>
      obtain ⟨k, q, hk, rfl, htk, rfl⟩ := hrel
      by_cases hlt : k < a.length
      · obtain ⟨ad, x, rfl, _, hx, hc⟩ := ha.byte hlt
        obtain ⟨ad', y, rfl, _, hy, hc'⟩ := hb.byte (k := k) (by omega)
        have hi1 : (k : Int) < (a.length : Int) := by omega
        have hi2 : (k : Int) < (b.length : Int) := by omega
        by_cases hxy : x = y
        · have HT := Lib.hid (take_eq_snoc hx.out hy.out htk.out hxy)
          have hne : ((x.toNat : Int) != (y.toNat : Int)) = false := by rw [hxy]; simp
          clear hxy
          go_wp2
          go_quiet (fail)
          go_wp2
          go_roundw
          case rel => exact ⟨k + 1, q + nq, by omega, by go_num, HT, by simp⟩
          case measure => simp [intOf]; omega
        · have HN := Lib.hid (ne_of_at hx.out hy.out hxy)
          have hne : ((x.toNat : Int) != (y.toNat : Int)) = true := by
            rw [bne_iff_ne]
            intro h
            exact hxy (UInt8.toNat_inj.1 (by omega))
          clear hxy
          go_wp2
          go_quiet (fail)
          go_wp2
          go_ret
          exact ⟨ret_bool (by rw [decide_eq_false HN.out]), q + nq, by simp⟩
      · have HE : Hid (a = b) := by
          have := htk.out
          rw [List.take_of_length_le (by omega), List.take_of_length_le (by omega)] at this
          exact this
        go_wp2
        go_ret
        exact ⟨ret_bool (by rw [decide_eq_true HE.out]), q, rfl⟩
  · have hneq : ((a.length : Int) != (b.length : Int)) = true := by rw [bne_iff_ne]; omega
    have HN : Hid (a ≠ b) := fun h => hl (by rw [h])
    clear hl
    go_enter Try.func10, Try.ntmps10
    go_wp2
    go_ret
    exact ⟨ret_bool (by rw [decide_eq_false HN.out]), 0, rfl⟩
theorem equal32_any (A A' : Option Addr) (c c' B : Nat) (a b : List UInt32) (w : World) (ha : Lies w B A (a.map uv)) (hb : Lies w B A' (b.map uv)) (hn : a.length ≤ maxLen) :
    Calls Try.prog 17 #[.slice A a.length c, .slice A' b.length c'] w fun e w' => e = .returned (.bool (decide (a = b))) ∧ ∃ q, w' = w.drewN q := by
  unfold maxLen at hn
  by_cases hl : a.length = b.length
  · have hneq : ((a.length : Int) != (b.length : Int)) = false := by rw [bne_eq_false_iff_eq]; omega
    have hlb : b.length ≤ a.length := by omega
    have hlb' : a.length ≤ b.length := by omega
    clear hl
    go_enter Try.func17, Try.ntmps17
    go_wp2
    go_loopw [13] (fun i wr => ∃ k q : Nat, k ≤ a.length ∧ i = .int .i64 k ∧ Hid (a.take k = b.take k) ∧ wr = w.drewN q) (fun i _ => a.length - (intOf i).toNat)
    case atStart => exact ⟨0, 0, Nat.zero_le _, rfl, rfl, rfl⟩
    case round =>
      obtain ⟨k, q, hk, rfl, htk, rfl⟩ := hrel
      by_cases hlt : k < a.length
      · obtain ⟨ad, x, rfl, _, hx, hc⟩ := ha.word hlt
        obtain ⟨ad', y, rfl, _, hy, hc'⟩ := hb.word (k := k) (by omega)
        have hi1 : (k : Int) < (a.length : Int) := by omega
        have hi2 : (k : Int) < (b.length : Int) := by omega
        by_cases hxy : x = y
        · have HT := Lib.hid (take_eq_snoc hx.out hy.out htk.out hxy)
          have hne : ((x.toNat : Int) != (y.toNat : Int)) = false := by rw [hxy]; simp
          clear hxy
          go_wp2
          go_quiet (fail)
          go_wp2
          go_roundw
          case rel => exact ⟨k + 1, q + nq, by omega, by go_num, HT, by simp⟩
          case measure => simp [intOf]; omega
        · have HN := Lib.hid (ne_of_at hx.out hy.out hxy)
          have hne : ((x.toNat : Int) != (y.toNat : Int)) = true := by
            rw [bne_iff_ne]
            intro h
            exact hxy (UInt32.toNat_inj.1 (by omega))
          clear hxy
          go_wp2
          go_quiet (fail)
          go_wp2
          go_ret
          exact ⟨ret_bool (by rw [decide_eq_false HN.out]), q + nq, by simp⟩
      · have HE : Hid (a = b) := by
          have := htk.out
          rw [List.take_of_length_le (by omega), List.take_of_length_le (by omega)] at this
          exact this
        go_wp2
        go_ret
        exact ⟨ret_bool (by rw [decide_eq_true HE.out]), q, rfl⟩
  · have hneq : ((a.length : Int) != (b.length : Int)) = true := by rw [bne_iff_ne]; omega
    have HN : Hid (a ≠ b) := fun h => hl (by rw [h])
    clear hl
    go_enter Try.func17, Try.ntmps17
    go_wp2
    go_ret
    exact ⟨ret_bool (by rw [decide_eq_false HN.out]), 0, rfl⟩

theorem right_any (k : Int) (w : World) : Calls Try.prog 19 #[.int .i64 k] w fun e w' => e = .returned (.bool (widthB k)) ∧ w = w' := by
  by_cases h1 : k = 1
  · subst h1
    go_enter Try.func19, Try.ntmps19
    go_wp2
    go_ret
    exact ⟨rfl, rfl⟩
  · by_cases h2 : k = 2
    · subst h2
      go_enter Try.func19, Try.ntmps19
      go_wp2
      go_ret
      exact ⟨rfl, rfl⟩
    · by_cases h4 : k = 4
      · subst h4
        go_enter Try.func19, Try.ntmps19
        go_wp2
        go_ret
        exact ⟨rfl, rfl⟩
      · have e1 : (k == 1) = false := by simp [h1]
        have e2 : (k == 2) = false := by simp [h2]
        have e4 : (k == 4) = false := by simp [h4]
        go_enter Try.func19, Try.ntmps19
        go_wp2
        go_ret
        exact ⟨by simp [widthB, h1, h2, h4], rfl⟩

/-! ### Number of the reference -/
theorem rnumber_bad (A : Option Addr) (n c : Nat) (at_ k : Int) (w : World) (hw : widthB k = false) :
    Calls Try.prog 12 #[.slice A n c, .int .i64 at_, .int .i64 k] w fun e w' => e = .returned (.tuple #[.int .u32 0, .bool false]) ∧ w = w' := by
  go_enter Try.func12, Try.ntmps12
  go_wp2_with (go_at_call 19; refine (right_any _ _).mono ?_; rintro e w' ⟨rfl, rfl⟩)
  go_ret2
  exact ⟨rfl, rfl⟩
theorem width_le {k : Int} (h : widthB k = true) : 1 ≤ k ∧ k ≤ 4 := by
  simp [widthB] at h
  omega
theorem rnumber_no (A : Option Addr) (n c : Nat) (p : Nat) (k : Int) (w : World) (hn : n ≤ 140737488355328) (hp : p ≤ n) (hk : ¬ (widthB k = true ∧ k ≤ (n : Int) - (p : Int))) :
    Calls Try.prog 12 #[.slice A n c, .int .i64 (p : Int), .int .i64 k] w fun e w' => e = .returned (.tuple #[.int .u32 0, .bool false]) ∧ w = w' := by
  by_cases hw : widthB k = true
  · have hb := width_le hw
    have hb1 := hb.1
    have hb2 := hb.2
    have hgt : (n : Int) < (p : Int) + k := by
      have : ¬ k ≤ (n : Int) - (p : Int) := fun h => hk ⟨hw, h⟩
      omega
    clear hk hb
    go_enter Try.func12, Try.ntmps12
    go_wp2_with (go_at_call 19; refine (right_any _ _).mono ?_; rintro e w' ⟨rfl, rfl⟩)
    go_ret2
    exact ⟨rfl, rfl⟩
  · exact rnumber_bad A n c _ k w (by simpa using hw)
theorem rnumber_yes (A : Option Addr) (c B : Nat) (b : List UInt8) (p k : Nat) (w : World) (h : Lies w B A (b.map bv)) (hn : b.length ≤ 140737488355328) (hw : widthB k = true) (hk : p + k ≤ b.length) :
    Calls Try.prog 12 #[.slice A b.length c, .int .i64 (p : Int), .int .i64 (k : Int)] w fun e w' => e = .returned (.tuple #[.int .u32 (numOf ((b.drop p).take k) : Nat), .bool true]) ∧ w = w' := by
  have hb := width_le hw
  have hb2 := hb.2
  clear hb
  have hle : ¬ (b.length : Int) < (p : Int) + (k : Int) := by omega
  have hi : ∀ i, i < k → ((b.drop p).take k)[i]? = b[p + i]? := by
    intro i hi
    rw [List.getElem?_take, if_pos hi, List.getElem?_drop]
  have HI := Lib.hid hi
  have hlen : ((b.drop p).take k).length = k := by rw [List.length_take, List.length_drop]; omega
  have HL := Lib.hid hlen
  clear hi hlen
  generalize hl : (b.drop p).take k = l at *
  clear hl
  go_enter Try.func12, Try.ntmps12
  go_wp2_with (go_at_call 19; refine (right_any _ _).mono ?_; rintro e w' ⟨rfl, rfl⟩)
  go_loop [8, 9] (fun t i => ∃ j : Nat, j ≤ k ∧ i = .int .i64 j ∧ t = .int .u32 (numOf (l.take j) : Nat)) (fun _ i => k - (intOf i).toNat)
  case atStart => exact ⟨0, Nat.zero_le _, rfl, rfl⟩
  case round =>
    obtain ⟨j, hj, rfl, rfl⟩ := hrel
    by_cases hlt : j < k
    · obtain ⟨ad, x, rfl, _, hx, hc⟩ := h.byte (k := p + j) (by omega)
      have hx2 := Lib.hid (numOf_take ((HI.out j hlt).trans hx.out))
      have hxn := numOf_lt (l.take j)
      go_wp2
      go_round
      case rel => exact ⟨j + 1, by omega, by go_num, by rw [hx2.out]; unfold numStep; congr 1; omega⟩
      case measure => simp [intOf]; omega
    · have HE : Hid (l.take j = l) := List.take_of_length_le (by have := HL.out; omega)
      go_wp2
      go_ret2
      exact ⟨ret2_int (by rw [HE.out]), rfl⟩

/-! ### Numbers of the reference -/
theorem rnumbers_bad (k : Int) (A : Option Addr) (n c : Nat) (w : World) (hk : widthB k = false) :
    Calls Try.prog 18 #[.int .i64 k, .slice A n c] w fun e w' => e = .returned (.slice none 0 0) ∧ w = w' := by
  go_enter Try.func18, Try.ntmps18
  go_wp2_with (go_at_call 19; refine (right_any _ _).mono ?_; rintro e w' ⟨rfl, rfl⟩)
  go_ret
  exact ⟨rfl, rfl⟩
theorem rnumbers_rem (k : Nat) (hk : widthB k = true) (A : Option Addr) (n c : Nat) (w : World) (hm : n % k ≠ 0) (hn : n ≤ maxLen) :
    Calls Try.prog 18 #[.int .i64 (k : Int), .slice A n c] w fun e w' => e = .returned (.slice none 0 0) ∧ w = w' := by
  unfold maxLen at hn
  have hb : (((n : Int) % (k : Int)) != 0) = true := by
    rw [bne_iff_ne]
    omega
  have hk0 := (width_le hk).1
  clear hm
  go_enter Try.func18, Try.ntmps18
  go_wp2_with (go_at_call 19; refine (right_any _ _).mono ?_; rintro e w' ⟨rfl, rfl⟩)
  go_ret
  exact ⟨rfl, rfl⟩
theorem rnumbers_any (k : Nat) (hk : widthB k = true) (A : Option Addr) (c : Nat) (b : List UInt8) (w : World) (h : Lies w w.heap.size A (b.map bv)) (hm : b.length % k = 0) (hs : b.length ≤ 35184372088832) :
    Calls Try.prog 18 #[.int .i64 (k : Int), .slice A b.length c] w fun e w' => ∃ A' c', e = .returned (.slice A' (b.length / k) c') ∧
      w'.ownsRow w.heap.size 32 1 (.slice A' (b.length / k) c') (b.length / k) ((nums k b).map uv) ∧ Below w.heap.size w w' := by
  have hk0 := (width_le hk).1
  have hk4 := (width_le hk).2
  have hb : (((b.length : Int) % (k : Int)) != 0) = false := by
    rw [bne_eq_false_iff_eq]
    omega
  have hdiv : b.length / k * k = b.length := by rw [Nat.mul_comm]; exact Nat.mul_div_cancel' (Nat.dvd_of_mod_eq_zero hm)
  have HD := Lib.hid hdiv
  have hle : b.length / k ≤ b.length := Nat.div_le_self _ _
  clear hdiv hm
  go_enter Try.func18, Try.ntmps18
  go_wp2_with (go_at_call 19; refine (right_any _ _).mono ?_; rintro e w' ⟨rfl, rfl⟩)
  go_loopw [5, 6] (fun v i wr => ∃ (j p : Nat) (A' : Option Addr) (c' : Nat), j ≤ b.length / k ∧ Hid (p = j * k) ∧ p ≤ b.length ∧ i = .int .i64 p ∧ v = .slice A' j c' ∧
      wr.ownsRow w.heap.size 32 1 (.slice A' j c') j (((nums k b).take j).map uv) ∧ Below w.heap.size w wr) (fun _ i _ => b.length - (intOf i).toNat)
  case atStart => exact ⟨0, 0, _, _, Nat.zero_le _, by unfold Hid; omega, Nat.zero_le _, rfl, rfl, World.ownsRow_nil _ _ _ _, Below.refl _ _⟩
  case round =>
    obtain ⟨j, p, A2, c2, hj, hp, hpl, rfl, rfl, hown, hbel⟩ := hrel
    by_cases hlt : j < b.length / k
    · have hpk : p + k ≤ b.length := by
        have h1 := hp.out
        have h2 := HD.out
        have h3 := Nat.mul_le_mul_right k (show j + 1 ≤ b.length / k by omega)
        rw [Nat.add_mul] at h3
        omega
      have hnum := rnumber_yes A c w.heap.size b p k wr (h.below hbel) (by omega) hk hpk
      have hx : numOf ((b.drop p).take k) = (numAt k b j).toNat := by rw [numAt_toNat, hp.out]
      rw [hx] at hnum
      have HN := Lib.hid hnum
      have HT := Lib.hid (nums_take k b j hlt)
      have hb1 := Lib.hid hbel.size
      clear hnum hx
      have hp3 : p < b.length := by omega
      go_wp2_with (first | (go_at_call 12; refine (HN.out).mono ?_; rintro e w' ⟨rfl, rfl⟩) | (at_builtin; refine wpList_append_lies _ rfl (.tmp 34) (.tmp 36) 38 rfl w.heap.size 32 _ 4 Try.underlying38 u32info rfl _ _ _ rfl (hown.alloc _) _ _ 1 1 _ rfl rfl (Lies.new1 _ _ _) (by intro u hu; rw [List.mem_singleton.1 hu]; rfl) (by omega) (by unfold maxLen; omega) (by simp; have := hb1.out; omega) ?_; intro A4 c4 w4 hown4 hgrow4 _))
      have hbel4 := below_own (hbel.alloc hbel.size _) (hown.alloc _) hgrow4 (Nat.le_refl _) (by simp; have := hbel.size; omega)
      have hown5 : w4.ownsRow w.heap.size 32 1 (.slice A4 (j + 1) c4) (j + 1) (((nums k b).take (j + 1)).map uv) := by
        rw [HT.out, List.map_append, List.map_singleton]
        exact hown4
      have H5 := Lib.hid hown5
      clear hown5 hown4 hown hgrow4
      go_wp2
      go_roundw
      case rel => exact ⟨j + 1, p + k, A4, c4, by omega, by unfold Hid; rw [Nat.add_mul, ← hp.out, Nat.one_mul], by omega, by go_num, rfl, H5.out, hbel4⟩
      case measure => simp [intOf]; omega
    · have hp3 : ¬ p < b.length := by
        have h1 := hp.out
        have h2 := HD.out
        have h3 : j = b.length / k := by omega
        rw [h3] at h1
        omega
      have hje : Hid (j = b.length / k) := by unfold Hid; omega
      have hown5 : wr.ownsRow w.heap.size 32 1 (.slice A2 (b.length / k) c2) (b.length / k) ((nums k b).map uv) := by
        have h3 := hje.out
        rw [h3, List.take_of_length_le (by rw [nums_len]; omega)] at hown
        exact hown
      have H5 := Lib.hid hown5
      clear hown5 hown
      go_wp2
      go_ret
      exact ⟨A2, c2, ret_slice (by rw [hje.out]), H5.out, hbel⟩

/-! ### Put of the reference -/
theorem be_four (k : Nat) (hk : k = 1 ∨ k = 2 ∨ k = 4) (x : UInt32) : be k x = (be 4 x).drop (4 - k) := by
  rcases hk with rfl | rfl | rfl <;> rfl
theorem be_cells (x : UInt32) : [Value.int .u8 ((x.toNat : Int) / 16777216 % 256), Value.int .u8 ((x.toNat : Int) / 65536 % 256), Value.int .u8 ((x.toNat : Int) / 256 % 256), Value.int .u8 ((x.toNat : Int) % 256)] = (be 4 x).map bv := by
  have h := fun s => shr_byte x s
  have h24 := h 24
  have h16 := h 16
  have h8 := h 8
  have h0 := h 0
  simp only [Int.reducePow, Int.pow_zero, Int.ediv_one] at h24 h16 h8 h0
  rw [h24, h16, h8, h0]
  rfl
theorem Lies.newN (w : World) (us : List Value) (t : TypeId) : Lies (w.alloc (.cells us.toArray t)) (w.heap.size + 1) (some ⟨w.heap.size, 0, none⟩) us := fun _ =>
  ⟨_, rfl, by simp, fun j v hv => by rw [add_row, cell_of_row _ _ _ us.toArray t (0, 0) (heap_alloc_new w _)]; simpa using hv⟩
theorem rput_bad (k : Int) (A : Option Addr) (n c : Nat) (w : World) (hk : widthB k = false) :
    Calls Try.prog 21 #[.int .i64 k, .slice A n c] w fun e w' => e = .returned (.slice none 0 0) ∧ w = w' := by
  go_enter Try.func21, Try.ntmps21
  go_wp2_with (go_at_call 19; refine (right_any _ _).mono ?_; rintro e w' ⟨rfl, rfl⟩)
  go_ret
  exact ⟨rfl, rfl⟩
theorem rput_any (k : Nat) (hk : k = 1 ∨ k = 2 ∨ k = 4) (A : Option Addr) (c : Nat) (l : List UInt32) (w : World) (h : Lies w w.heap.size A (l.map uv)) (hl : l.length ≤ 35184372088832) :
    Calls Try.prog 21 #[.int .i64 (k : Int), .slice A l.length c] w fun e w' => ∃ A' c', e = .returned (.slice A' (l.length * k) c') ∧
      w'.ownsRow w.heap.size 5 1 (.slice A' (l.length * k) c') (l.length * k) ((puts k l).map bv) ∧ Below w.heap.size w w' := by
  have hw : widthB k = true := by rcases hk with rfl | rfl | rfl <;> rfl
  have hk4 : k ≤ 4 := by omega
  have hk1 : 1 ≤ k := by omega
  have HB := Lib.hid (be_four k hk)
  clear hk
  go_enter Try.func21, Try.ntmps21
  go_wp2_with (go_at_call 19; refine (right_any _ _).mono ?_; rintro e w' ⟨rfl, rfl⟩)
  go_loopw [5, 6] (fun v i wr => ∃ (j : Nat) (A' : Option Addr) (c' : Nat), j ≤ l.length ∧ i = .int .i64 j ∧ v = .slice A' (j * k) c' ∧
      wr.ownsRow w.heap.size 5 1 (.slice A' (j * k) c') (j * k) ((puts k (l.take j)).map bv) ∧ Below w.heap.size w wr)
    (fun _ i _ => l.length - (intOf i).toNat)
  case atStart => exact ⟨0, _, _, Nat.zero_le _, rfl, by rw [Nat.zero_mul], by rw [Nat.zero_mul]; exact World.ownsRow_nil _ _ _ _, Below.refl _ _⟩
  case round =>
    obtain ⟨j, A2, c2, hj, rfl, rfl, hown2, hbel⟩ := hrel
    by_cases hlt : j < l.length
    · obtain ⟨ad, x, rfl, hb, hx, hc⟩ := (h.below hbel).word hlt
      have hi1 : (j : Int) < (l.length : Int) := by omega
      obtain ⟨wo, hwo⟩ : ∃ wo : World, wo = wr := ⟨_, rfl⟩
      rw [← hwo] at hown2 hbel hc ⊢
      clear hwo
      go_wp2
      have HC := Lib.hid (be_cells x)
      go_region
      obtain ⟨w4, hw4⟩ : ∃ w4 : World, w4 = (wo.alloc (.cells #[.int .u8 ((x.toNat : Int) / 16777216 % 256), .int .u8 ((x.toNat : Int) / 65536 % 256), .int .u8 ((x.toNat : Int) / 256 % 256), .int .u8 ((x.toNat : Int) % 256)] 5)).drew := ⟨_, rfl⟩
      rw [← hw4]
      have hl4 : Lies w4 (wo.heap.size + 1) (some ⟨wo.heap.size, 0, none⟩) ((be 4 x).map bv) := by
        rw [hw4, ← HC.out]
        exact Lies.newN wo _ _
      have ho4 : w4.ownsRow w.heap.size 5 1 (.slice A2 (j * k) c2) (j * k) ((puts k (l.take j)).map bv) := by
        rw [hw4]
        exact hown2.alloc _
      have hb4 : Below w.heap.size w w4 := by
        rw [hw4]
        exact (hbel.alloc hbel.size _).drew
      have hsz4 : w.heap.size ≤ w4.heap.size := hb4.size
      have hl5 : Lies w4 (wo.heap.size + 1) (some ((⟨wo.heap.size, 0, none⟩ : Addr).add (4 - k))) ((be k x).map bv) := by
        have := hl4.drop (k := 4 - k) (c := 5) (by simp [be_len])
        rw [if_neg (by omega), ← List.map_drop, ← HB.out] at this
        exact this
      rw [add_row] at hl5
      have HP := Lib.hid (puts_take (k := k) hx.out)
      have hjk : j * k + k ≤ l.length * k := by
        have := Nat.mul_le_mul_right k (show j + 1 ≤ l.length by omega)
        rw [Nat.add_mul] at this
        omega
      have hjl : l.length * k ≤ 140737488355328 := by
        have := Nat.mul_le_mul_left l.length hk4
        omega
      have hbl := Lib.hid (be_len k x)
      clear hw4 hl4 hc hown2
      have ec : ¬ (4 : Nat) = 4 - k := by omega
      go_wp2_with (at_builtin; refine wpList_append_lies _ rfl (.tmp 42) (.tmp 46) 22 rfl w.heap.size 5 _ 1 Try.underlying22 u8info rfl _ _ _ rfl ho4 _ _ _ _ ((be k x).map bv) rfl (by rw [List.length_map, be_len]; omega) hl5 (one_bytes _) (by omega) (by unfold maxLen; omega) hsz4 ?_; intro A5 c5 w5 hown5 hgrow5 _)
      have hbel5 := below_own hb4 ho4 hgrow5 (Nat.le_refl _) hb4.size
      have e4 : j * k + (4 - (4 - k)) = (j + 1) * k := by rw [Nat.add_mul, Nat.one_mul]; omega
      have H5 : Hid (w5.ownsRow w.heap.size 5 1 (.slice A5 ((j + 1) * k) c5) ((j + 1) * k) ((puts k (l.take (j + 1))).map bv)) := by
        rw [e4] at hown5
        unfold Hid
        rw [HP.out, List.map_append]
        exact hown5
      have H6 := Lib.hid e4
      clear e4 hown5 hgrow5 ho4 hl5 ec
      go_wp2
      go_roundw
      case rel => exact ⟨j + 1, A5, c5, by omega, by go_num, by rw [H6.out], H5.out, hbel5⟩
      case measure => simp [intOf]; omega
    · obtain rfl : j = l.length := by omega
      rw [List.take_length] at hown2
      have H5 := Lib.hid hown2
      clear hown2
      go_wp2
      go_ret
      exact ⟨A2, c2, rfl, H5.out, hbel⟩

/-! ### Join of the reference -/
theorem rjoin_any (A : Option Addr) (c : Nat) (vs : List Value) (ps : List (List UInt8)) (w : World) (h : Parts w w.heap.size A vs ps) (hn : ps.length ≤ maxLen) (ht : tot ps ≤ 140737488355328) :
    Calls Try.prog 23 #[.slice A ps.length c] w fun e w' => ∃ A' c', e = .returned (.slice A' (tot ps) c') ∧
      w'.ownsRow w.heap.size 5 1 (.slice A' (tot ps) c') (tot ps) (ps.flatten.map bv) ∧ Below w.heap.size w w' := by
  unfold maxLen at hn
  go_enter Try.func23, Try.ntmps23
  go_wp2
  go_loopw [3, 4] (fun v i wr => ∃ (k : Nat) (A' : Option Addr) (c' : Nat), k ≤ ps.length ∧ i = .int .i64 k ∧ v = .slice A' (tot (ps.take k)) c' ∧
      wr.ownsRow w.heap.size 5 1 (.slice A' (tot (ps.take k)) c') (tot (ps.take k)) ((ps.take k).flatten.map bv) ∧ Below w.heap.size w wr)
    (fun _ i _ => ps.length - (intOf i).toNat)
  case atStart => exact ⟨0, _, _, Nat.zero_le _, rfl, rfl, World.ownsRow_nil _ _ _ _, Below.refl _ _⟩
  case round =>
    obtain ⟨k2, A2, c2, hk2, rfl, rfl, hown2, hbel⟩ := hrel
    have t1 := tot_le ps k2
    have t2 := tot_le ps (k2 + 1)
    by_cases hlt2 : k2 < ps.length
    · obtain ⟨ad, A', c', p, rfl, _, hp, hc0, hlp, hl1, hl2⟩ := (h.below hbel).at_ hlt2
      have H2 := Lib.hid (tot_take hp.out)
      have hb1 : tot (ps.take k2) + p.length ≤ 140737488355328 := by have := H2.out; omega
      go_wp2_with (at_builtin; refine wpList_append_lies _ rfl (.tmp 11) (.tmp 15) 22 rfl w.heap.size 5 _ 1 Try.underlying22 u8info rfl _ _ _ rfl hown2 _ A' p.length c' _ rfl (by simp) hlp (one_bytes p) (by omega) (by unfold maxLen; omega) hbel.size ?_; intro A3 c3 w3 hown3 hgrow3 _)
      have hbel3 := below_own hbel hown2 hgrow3 (Nat.le_refl _) hbel.size
      have hown4 : w3.ownsRow w.heap.size 5 1 (.slice A3 (tot (ps.take (k2 + 1))) c3) (tot (ps.take (k2 + 1))) ((ps.take (k2 + 1)).flatten.map bv) := by
        rw [H2.out, take_some hp.out]
        simpa using hown3
      have H4 := Lib.hid hown4
      clear hown4 hown3 hown2 hgrow3
      go_wp2
      go_roundw
      case rel => exact ⟨k2 + 1, A3, c3, by omega, by go_num, by rw [H2.out], H4.out, hbel3⟩
      case measure => simp [intOf]; omega
    · have e1 : ps.take k2 = ps := List.take_of_length_le (by omega)
      rw [e1] at hown2
      have H5 := Lib.hid hown2
      have H6 := Lib.hid e1
      clear hown2 e1
      go_wp2
      go_ret
      exact ⟨A2, c2, ret_slice (by rw [H6.out]), H5.out, hbel⟩
end Go.Proofs.Ytldfepehhdnaeaa
