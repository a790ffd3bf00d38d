/- Layer 4, package poly: the powers of a polynomial, and adding powers to bits, for whatever lists. -/
import Derived.Test.YtgjedidpimncaaaPolyC
namespace Go.Proofs.Ytgjedidpimncaaa
open Go.RowKit

theorem intinfo : (Try.prog.info? 3).map (fun i => (i.zero, i.size, i.bytes)) = some (some (.int .i64 0), 1, 8) := by kernel_rfl
theorem one_ints (l : List Nat) : ∀ u ∈ l.map iv, u.oneCell' = true := by
  intro u hu
  obtain ⟨c, _, rfl⟩ := List.mem_map.1 hu
  rfl
theorem own_nil (w : World) (base e : Nat) : w.ownsRow base e 1 (.slice none 0 0) 0 [] := ⟨rfl, .inl ⟨rfl, rfl⟩⟩

theorem powers_any (A : Option Addr) (c : Nat) (l : List UInt8) (w : World) (h : Lies w w.heap.size A (l.map bv)) (hn : l.length ≤ 100000) :
    Calls Try.prog 47 #[.slice A l.length c] w fun e w' => ∃ A' c', e = .returned (.slice A' (pws l l.length).length c') ∧
      w'.ownsRow w.heap.size 3 1 (.slice A' (pws l l.length).length c') (pws l l.length).length ((pws l l.length).map iv) ∧ Below w.heap.size w w' := by
  go_enter Try.func47, Try.ntmps47
  go_wp2
  go_loopw [8, 3] (fun i v wr => ∃ (k m : Nat) (A' : Option Addr) (c' : Nat), k ≤ l.length ∧ i = .int .i64 k ∧ v = .slice A' m c' ∧ m = (pws l k).length ∧
      wr.ownsRow w.heap.size 3 1 (.slice A' m c') m ((pws l k).map iv) ∧ Below w.heap.size w wr) (fun i _ _ => l.length - (intOf i).toNat)
  case atStart => exact ⟨0, 0, none, 0, Nat.zero_le _, rfl, rfl, rfl, own_nil _ _ _, Below.refl _ _⟩
  case round =>
    obtain ⟨k, m, A2, c2, hk, rfl, rfl, hm, hown, hbk⟩ := hrel
    by_cases hlt : k < l.length
    · obtain ⟨ad, x, rfl, hbl, hx, hcx⟩ := (h.below hbk).byte hlt
      have hO := fun w => one_any x w
      have hE := b8_eq_one (odd x)
      have HP := Lib.hid (pws_succ l k)
      have HC := Lib.hid (co_some hx.out)
      have hml := pws_len l k
      cases hodd : odd x with
      | true =>
        rw [hodd] at hO hE
        have HQ : Hid (pws l (k + 1) = pws l k ++ [k]) := by rw [Hid, HP.out, HC.out, hodd]; rfl
        have HM : Hid (m + 1 = (pws l (k + 1)).length) := by rw [Hid, HQ.out, hm]; simp
        have hm5 : m ≤ 100000 := by omega
        clear hm HP HC hml
        have hsz := Lib.hid hbk.size
        go_wp2_with (first
          | (go_at_call 42; refine (hO _).mono ?_; rintro e w' ⟨rfl, rfl⟩)
          | (at_builtin; refine wpList_append_lies _ rfl (.tmp 16) (.tmp 18) 43 rfl w.heap.size 3 _ 8 Try.underlying43 intinfo rfl _ _ _ rfl (hown.alloc _) _ _ 1 1 _ rfl rfl (Lies.new1 _ _ _) (by intro u hu; rw [List.mem_singleton.1 hu]; rfl) (by omega) (by unfold maxLen; omega) (by simp; have := hsz.out; omega) ?_; intro A4 c4 w4 hown4 hgrow4 _))
        have hbel4 := below_own (hbk.alloc hbk.size _) (hown.alloc _) hgrow4 (Nat.le_refl _) (by simp; have := hbk.size; omega)
        have H5 : Hid (w4.ownsRow w.heap.size 3 1 (.slice A4 (m + 1) c4) (m + 1) ((pws l (k + 1)).map iv)) := by
          rw [Hid, HQ.out, List.map_append]
          exact hown4
        clear hown hown4 hgrow4
        go_wp2
        go_roundw
        case rel => exact ⟨k + 1, m + 1, A4, c4, by omega, by go_num, rfl, HM.out, H5.out, hbel4⟩
        case measure => simp [intOf]; omega
      | false =>
        rw [hodd] at hO hE
        have HQ : Hid (pws l (k + 1) = pws l k) := by rw [Hid, HP.out, HC.out, hodd]; simp
        have HM : Hid (m = (pws l (k + 1)).length) := by rw [Hid, HQ.out, hm]
        have H5 : Hid (wr.ownsRow w.heap.size 3 1 (.slice A2 m c2) m ((pws l (k + 1)).map iv)) := by rw [Hid, HQ.out]; exact hown
        clear hm HP HC hml hown
        go_wp2_with (go_at_call 42; refine (hO _).mono ?_; rintro e w' ⟨rfl, rfl⟩)
        go_roundw
        case rel => exact ⟨k + 1, m, A2, c2, by omega, by go_num, rfl, HM.out, H5.out, hbk⟩
        case measure => simp [intOf]; omega
    · obtain rfl : k = l.length := by omega
      have H := Lib.hid hown
      clear hown
      go_wp2
      go_ret
      subst hm
      exact ⟨A2, c2, rfl, H.out, hbk⟩

/-! ### adding powers -/
/-- cells in a row outside the block g -/
def Far (w : World) (g : Nat) (A : Option Addr) (xs : List Value) : Prop :=
  xs ≠ [] → ∃ ad, A = some ad ∧ ad.block ≠ g ∧ ad.block < w.heap.size ∧ ∀ j u, xs[j]? = some u → w.cell? (ad.add j) = some u
theorem Far.grown {w w' : World} {g : Nat} {A : Option Addr} {xs : List Value} (h : Far w g A xs) (hg : w.grownBy w' (some g)) : Far w' g A xs := fun hne => by
  obtain ⟨ad, h1, h2, h3, h4⟩ := h hne
  refine ⟨ad, h1, h2, Nat.lt_of_lt_of_le h3 hg.size, fun j u hu => ?_⟩
  rw [hg.cell_far _ (by rw [blk_add]; exact h3) (by rw [blk_add]; simpa using h2)]
  exact h4 j u hu
theorem Far.own {w : World} {base e g n c : Nat} {A : Option Addr} {xs : List Value} (h : w.ownsRow base e 1 (.slice A n c) n xs) (hg : g < base) : Far w g A xs := fun hne => by
  obtain ⟨ad, h1, h2, h3⟩ := Lies.own h hne
  rcases h.2 with ⟨h4, h5⟩ | ⟨g', cap, cur, h4, h5, _⟩
  · refine absurd (List.eq_nil_of_length_eq_zero ?_) hne
    rw [h.1, h5, Nat.zero_mul]
  · simp only [Value.slice.injEq] at h4
    obtain ⟨rfl, _, _⟩ := h4
    obtain rfl := Option.some.inj h1
    exact ⟨_, rfl, (by show g' ≠ g; omega), h2, h3⟩
theorem Far.int {w : World} {g : Nat} {A : Option Addr} {l : List Nat} (h : Far w g A (l.map iv)) {k : Nat} (hk : k < l.length) :
    ∃ ad x, A = some ad ∧ Hid (l[k]? = some x) ∧ w.cell? (ad.add k) = some (.int .i64 (x : Int)) := by
  obtain ⟨ad, h1, _, _, h4⟩ := h (fun e => by have := congrArg List.length e; rw [List.length_map] at this; simp only [List.length_nil] at this; omega)
  exact ⟨ad, l[k], h1, List.getElem?_eq_getElem hk, h4 k _ (by simp [hk])⟩
theorem grown_trans {a b c : World} {row : Option Nat} (h : a.grownBy b row) (k : b.grownBy c row) : a.grownBy c row :=
  ⟨k.os.trans h.os, k.tape.trans h.tape, k.output.trans h.output, Nat.le_trans h.size k.size, fun i hi hr => (k.block i (Nat.lt_of_lt_of_le hi h.size) hr).trans (h.block i hi hr)⟩
theorem grown_set (w : World) (g i : Nat) (u : Value) : w.grownBy (w.setCell ⟨g, i, none⟩ u) (some g) :=
  ⟨rfl, rfl, rfl, by simp [World.setCell], fun j _ hj => Below.heap_setCell w _ _ j (fun e => hj (by rw [e]))⟩
theorem xor_one (b : Bool) : bits BinOp.xor IntKind.u8 ((b8 b).toNat : Int) 1 = ((b8 (!b)).toNat : Int) := by cases b <;> decide

theorem addp_any (g m n c : Nat) (A : Option Addr) (ps : List Nat) (f : Nat → Bool) (w : World) (hrow : Row w g (bits8 f m)) (hps : Far w g A (ps.map iv))
    (hm : m ≤ 1000000) (hb : ∀ (j : Nat) (x : Nat), ps[j]? = some x → n + x < m) (hl : ps.length ≤ 1000000) :
    Calls Try.prog 48 #[.slice (some ⟨g, 0, none⟩) m m, .slice A ps.length c, .int .i64 (n : Int)] w fun e w' => e = .returned (.tuple #[]) ∧
      Row w' g (bits8 (addP f ps n) m) ∧ w.grownBy w' (some g) := by
  have HB := Lib.hid hb
  clear hb
  go_enter Try.func48, Try.ntmps48
  go_wp2
  go_loopw [10] (fun i wr => ∃ k : Nat, k ≤ ps.length ∧ i = .int .i64 k ∧ Row wr g (bits8 (addP f (ps.take k) n) m) ∧ w.grownBy wr (some g)) (fun i _ => ps.length - (intOf i).toNat)
  case atStart => exact ⟨0, Nat.zero_le _, rfl, hrow, World.grownBy.refl _ _⟩
  case round =>
    obtain ⟨k, hk, rfl, hrk, hgk⟩ := hrel
    by_cases hlt : k < ps.length
    · obtain ⟨ad, x, rfl, hx, hcx⟩ := (hps.grown hgk).int hlt
      have hxm := HB.out k x hx.out
      have HT := Lib.hid (addP_take f n hx.out)
      generalize addP f (ps.take k) n = f2 at *
      have hc2 := hrk.byte (bits8_at f2 hxm)
      have hf2 := Whole.frozen hrk (n + x)
      have HS := Lib.hid (hrk.store (n + x) (b8 (!f2 (n + x))))
      have HX := Lib.hid (xor_one (f2 (n + x)))
      rw [bits8_set, ← HT.out, ← HX.out] at HS
      have HG := Lib.hid (grown_trans hgk (grown_set wr g (n + x) (.int .u8 (bits BinOp.xor IntKind.u8 ((b8 (f2 (n + x))).toNat : Int) 1))))
      clear hrk HX HT
      go_wp2
      go_roundw
      case rel => exact ⟨k + 1, by omega, by go_num, HS.out, HG.out⟩
      case measure => simp [intOf]; omega
    · have H : Hid (Row wr g (bits8 (addP f ps n) m)) := by
        have := hrk
        rw [List.take_of_length_le (by omega)] at this
        exact this
      clear hrk
      go_wp2
      go_end0
      exact ⟨rfl, H.out, hgk⟩
end Go.Proofs.Ytgjedidpimncaaa
