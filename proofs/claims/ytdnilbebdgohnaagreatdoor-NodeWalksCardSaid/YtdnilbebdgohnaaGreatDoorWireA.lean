/- Layer 1, package wire: what isWidth, number and Join return, for whatever arguments; they write nothing that was there. -/
import Derived.Test.YtdnilbebdgohnaaGreatDoorChecked
import Derived.Test.YtdnilbebdgohnaaGreatDoorJoin


namespace Go.Proofs.YtdnilbebdgohnaaGreatDoor
open Go.RowKit

/-! ### isWidth -/
def widthB (k : Int) : Bool := decide (k = 1 ∨ k = 2 ∨ k = 4)
theorem isWidth_any (k : Int) (w : World) : Calls Tryz.prog 75 #[.int .i64 k] w fun e w' => e = .returned (.bool (widthB k)) ∧ w = w' := by
  by_cases h1 : k = 1
  · subst h1
    go_enter Tryz.func75, Tryz.ntmps75
    go_wp2
    go_ret
    exact ⟨rfl, rfl⟩
  · by_cases h2 : k = 2
    · subst h2
      go_enter Tryz.func75, Tryz.ntmps75
      go_wp2
      go_ret
      exact ⟨rfl, rfl⟩
    · by_cases h4 : k = 4
      · subst h4
        go_enter Tryz.func75, Tryz.ntmps75
        go_wp2
        go_ret
        exact ⟨rfl, rfl⟩
      · have e1 : (k == 1) = false := by simp [h1]
        have e2 : (k == 2) = false := by simp [h2]
        have e4 : (k == 4) = false := by simp [h4]
        go_enter Tryz.func75, Tryz.ntmps75
        go_wp2
        go_ret
        exact ⟨by simp [widthB, h1, h2, h4], rfl⟩

/-! ### number -/
def numStep (x : Nat) (c : UInt8) : Nat := (x * 256 + c.toNat) % 4294967296
def numOf (l : List UInt8) : Nat := l.foldl numStep 0
theorem numOf_lt (l : List UInt8) : numOf l < 4294967296 := by
  have h : ∀ (l : List UInt8) (x : Nat), x < 4294967296 → l.foldl numStep x < 4294967296 := by
    intro l
    induction l with
    | nil => intro x h; exact h
    | cons c l ih => intro x _; exact ih _ (Nat.mod_lt _ (by omega))
  exact h l 0 (by omega)
theorem numOf_take {l : List UInt8} {k : Nat} {x : UInt8} (h : l[k]? = some x) : numOf (l.take (k + 1)) = numStep (numOf (l.take k)) x := by
  rw [take_some h]
  simp only [numOf, List.foldl_append, List.foldl_cons, List.foldl_nil]
theorem or_step (x : Nat) (c : UInt8) (_hx : x < 4294967296) :
    bits BinOp.or IntKind.u32 ((x : Int) * 256 % 4294967296) ((c.toNat : Int) % 4294967296) = ((numStep x c : Nat) : Int) := by
  have hc : c.toNat < 256 := c.toNat_lt
  have e1 : ((x : Int) * 256 % 4294967296) = ((x * 256 % 4294967296 : Nat) : Int) := by omega
  have e2 : ((c.toNat : Int) % 4294967296) = ((c.toNat : Nat) : Int) := by omega
  rw [e1, e2, u32_or_nat _ _ (by omega) (by omega), nat_join 8 _ _ (by omega) (by omega)]
  unfold numStep
  omega
theorem number_any (A : Option Addr) (c B : Nat) (l : List UInt8) (w : World) (h : Lies w B A (l.map bv)) (hn : l.length ≤ maxLen) :
    Calls Tryz.prog 82 #[.slice A l.length c] w fun e w' => e = .returned (.int .u32 (numOf l : Nat)) ∧ w = w' := by
  unfold maxLen at hn
  go_enter Tryz.func82, Tryz.ntmps82
  go_wp2
  go_loop [3, 8] (fun t i => ∃ k : Nat, k ≤ l.length ∧ i = .int .i64 k ∧ t = .int .u32 (numOf (l.take k) : Nat))
                 (fun _ i => l.length - (intOf i).toNat)
  case atStart => exact ⟨0, Nat.zero_le _, rfl, rfl⟩
  case round =>
    obtain ⟨k, hk, rfl, rfl⟩ := hrel
    by_cases hlt : k < l.length
    · obtain ⟨ad, x, rfl, hb, hx, hc⟩ := h.byte hlt
      have hxn := numOf_lt (l.take k)
      have H2 := Lib.hid (or_step (numOf (l.take k)) x hxn)
      go_wp2
      go_round
      case rel => exact ⟨k + 1, by omega, by go_num, by rw [numOf_take hx.out, ← H2.out]⟩
      case measure => simp [intOf]; omega
    · go_wp2
      go_ret
      exact ⟨ret_int (by rw [List.take_of_length_le (by omega)]), rfl⟩

/-! ### Join -/
theorem join_any (A : Option Addr) (c : Nat) (vs : List Value) (ps : List (List UInt8)) (w : World) (h : Parts w w.heap.size A vs ps) (hn : ps.length ≤ maxLen) (ht : tot ps ≤ 140737488355328) :
    Calls Tryz.prog 35 #[.slice A ps.length c] w fun e w' => ∃ A' c', e = .returned (.slice A' (tot ps) c') ∧
      w'.ownsRow w.heap.size 5 1 (.slice A' (tot ps) c') (tot ps) (ps.flatten.map bv) ∧ Below w.heap.size w w' := by
  unfold maxLen at hn
  obtain ⟨i0, hi, hz0, hz1, hz2⟩ := info_parts u8info
  go_enter Tryz.func35, Tryz.ntmps35
  go_wp2
  go_loop [3, 11] (fun t i => ∃ k : Nat, k ≤ ps.length ∧ i = .int .i64 k ∧ t = .int .i64 (tot (ps.take k) : Nat))
                 (fun _ i => ps.length - (intOf i).toNat)
  case atStart => exact ⟨0, Nat.zero_le _, rfl, rfl⟩
  case round =>
    obtain ⟨k, hk, rfl, rfl⟩ := hrel
    have t1 := tot_le ps k
    have t2 := tot_le ps (k + 1)
    by_cases hlt : k < ps.length
    · obtain ⟨ad, A', c', p, rfl, _, hp, hc, _, hl1, hl2⟩ := h.at_ hlt
      have H2 := Lib.hid (tot_take hp.out)
      have hb1 : tot (ps.take k) + p.length ≤ 140737488355328 := by have := H2.out; omega
      go_wp2
      go_round
      case rel => exact ⟨k + 1, by omega, by go_num, by rw [H2.out]; go_num⟩
      case measure => simp [intOf]; omega
    · have e0 : Hid (tot (ps.take k) = tot ps) := by unfold Hid; rw [List.take_of_length_le (by omega)]
      go_wp2_with (at_make; refine wpList_make_own _ rfl (.const (.int .i64 0)) (.tmp 20) 32 rfl w.heap.size 5 i0 _ 1 Tryz.underlying32 hi hz0 hz1 .i64 .i64 _ (tot ps) rfl rfl (by rw [e0.out]) (by rw [hz2]; omega) (by unfold maxLen; omega) (Nat.le_refl _) ?_; intro w1 hown hgrow)
      go_loopw [6, 24] (fun v i wr => ∃ (k : Nat) (A' : Option Addr) (c' : Nat), k ≤ ps.length ∧ i = .int .i64 k ∧ v = .slice A' (tot (ps.take k)) c' ∧
          wr.ownsRow w.heap.size 5 1 (.slice A' (tot (ps.take k)) c') (tot (ps.take k)) ((ps.take k).flatten.map bv) ∧ Below w.heap.size w wr)
        (fun _ i _ => ps.length - (intOf i).toNat)
      case atStart => exact ⟨0, _, _, Nat.zero_le _, rfl, rfl, hown, (Below.refl _ _).grown hgrow (Nat.le_refl _) (by simp)⟩
      case round =>
        obtain ⟨k2, A2, c2, hk2, rfl, rfl, hown2, hbel⟩ := hrel
        have t1 := tot_le ps k2
        have t2 := tot_le ps (k2 + 1)
        by_cases hlt2 : k2 < ps.length
        · obtain ⟨ad, A', c', p, rfl, _, hp, hc0, hlp, hl1, hl2⟩ := (h.below hbel).at_ hlt2
          have H2 := Lib.hid (tot_take hp.out)
          have hb1 : tot (ps.take k2) + p.length ≤ 140737488355328 := by have := H2.out; omega
          go_wp2_with (at_builtin; refine wpList_append_lies _ rfl (.tmp 28) (.tmp 29) 32 rfl w.heap.size 5 _ 1 Tryz.underlying32 u8info rfl _ _ _ rfl hown2 _ A' p.length c' _ rfl (by simp) hlp (one_bytes p) (by omega) (by unfold maxLen; omega) hbel.size ?_; intro A3 c3 w3 hown3 hgrow3 _)
          have hbel3 := below_own hbel hown2 hgrow3 (Nat.le_refl _) hbel.size
          have hown4 : w3.ownsRow w.heap.size 5 1 (.slice A3 (tot (ps.take (k2 + 1))) c3) (tot (ps.take (k2 + 1))) ((ps.take (k2 + 1)).flatten.map bv) := by
            rw [H2.out, take_some hp.out]
            simpa using hown3
          have H4 := Lib.hid hown4
          clear hown4 hown3 hown2 hgrow3
          go_wp2
          go_roundw
          case rel => exact ⟨k2 + 1, A3, c3, by omega, by go_num, by rw [H2.out], H4.out, hbel3⟩
          case measure => simp [intOf]; omega
        · have e1 : ps.take k2 = ps := List.take_of_length_le (by omega)
          rw [e1] at hown2
          have H5 := Lib.hid hown2
          have H6 := Lib.hid e1
          clear hown2 e1
          go_wp2
          go_ret
          exact ⟨A2, c2, ret_slice (by rw [H6.out]), H5.out, hbel⟩
end Go.Proofs.YtdnilbebdgohnaaGreatDoor

