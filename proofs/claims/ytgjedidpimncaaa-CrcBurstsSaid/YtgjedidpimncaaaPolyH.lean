/- Layer 4, package poly: the product with a power of x, for whatever lists. -/
import Derived.Test.YtgjedidpimncaaaPolyG
import Derived.Deep.RegionLaw
import Derived.Deep.AppendLies
import Derived.Deep.OwnRows
namespace Go.Proofs.Ytgjedidpimncaaa
open Go.RowKit

theorem shift_neg (A : Option Addr) (c : Nat) (p : List UInt8) (n : Int) (w : World) (hn : n < 0) :
    Calls Try.prog 28 #[.slice A p.length c, .int .i64 n] w fun e w' => e = .returned (.slice none 0 0) ∧ w = w' := by
  go_enter Try.func28, Try.ntmps28
  go_wp2_with fail
  go_ret
  exact ⟨rfl, rfl⟩
theorem shift_zero (A : Option Addr) (c B : Nat) (p : List UInt8) (n : Nat) (w : World) (hp : Lies w B A (p.map bv)) (hlp : p.length ≤ 10000) (hn : n ≤ 10000) (h0 : rl p = 0) :
    Calls Try.prog 28 #[.slice A p.length c, .int .i64 (n : Int)] w fun e w' => e = .returned (.slice none 0 0) ∧ w = w' := by
  have hD := fun w' h' => degree_any A c B p w' h' (by omega)
  have hd : ((rl p : Nat) : Int) - 1 = -1 := by omega
  rw [hd] at hD
  clear hd
  go_enter Try.func28, Try.ntmps28
  go_wp2_with (go_at_call 40; refine (hD _ hp).mono ?_; rintro e w' ⟨rfl, rfl⟩)
  go_ret
  exact ⟨rfl, rfl⟩

def shl (f : Nat → Bool) (n i : Nat) : Bool := decide (n ≤ i) && f (i - n)
theorem shl_can {f : Nat → Bool} {L : List UInt8} (h : Can f L) (h0 : 0 < L.length) (n : Nat) : Can (shl f n) (bits8 (fun _ => false) n ++ L) := by
  refine ⟨fun i hi => ?_, fun i hi => ?_, fun m hm => ?_⟩
  · rw [List.length_append, bits8_len] at hi
    unfold shl
    by_cases h1 : n ≤ i
    · rw [List.getElem?_append_right (by rw [bits8_len]; exact h1), bits8_len, h.at_ _ (by omega)]
      simp [h1]
    · rw [List.getElem?_append_left (by rw [bits8_len]; omega), bits8_at _ (by omega)]
      simp [h1]
  · rw [List.length_append, bits8_len] at hi
    unfold shl
    rw [h.out _ (by omega), Bool.and_false]
  · rw [List.length_append, bits8_len] at hm
    unfold shl
    rw [h.last (m - n) (by omega), decide_eq_true (by omega)]
    rfl
theorem shl_none {f : Nat → Bool} (h : ∀ i, f i = false) (n i : Nat) : shl f n i = false := by unfold shl; rw [h, Bool.and_false]
theorem one_bits (l : List UInt8) : ∀ u ∈ l.map bv, u.oneCell' = true := one_bytes l

theorem make_row (n : Nat) (hn : n ≤ 10000000) (t : TypeId) (ht : Try.prog.underlying t = some (.slice 5)) (w : World) :
    (Instr.makeSlice t (.int .i64 (n : Int)) (.int .i64 (n : Int))).run Try.prog w = .ok (.slice (some ⟨w.heap.size, 0, none⟩) n n) (w.alloc (.cells ((bits8 (fun _ => false) n).map bv).toArray 5)) := by
  have h := run_make_row' (P := Try.prog) t 5 (.int .u8 0) 1 ht u8info rfl .i64 .i64 n (by omega) (by omega) w
  rw [h, bits8_zero, List.map_replicate, show bv 0 = Value.int .u8 0 from rfl, ← toList_madeCells_one]

theorem size_alloc (w : World) (o : Obj) : (w.alloc o).heap.size = w.heap.size + 1 := by simp

theorem shift_any (A : Option Addr) (c : Nat) (p : List UInt8) (n : Nat) (w : World) (hp : Lies w w.heap.size A (p.map bv)) (hlp : p.length ≤ 10000) (hn : n ≤ 10000) (h0 : 0 < rl p) :
    Calls Try.prog 28 #[.slice A p.length c, .int .i64 (n : Int)] w fun e w' => ∃ A n' c' L, e = .returned (.slice A n' c') ∧
      Holds w' (shl (co p) n) A n' c' L ∧ Below w.heap.size w w' := by
  have hD := fun w' h' => degree_any A c w.heap.size p w' h' (by omega)
  have hd : (0 : Int) ≤ ((rl p : Nat) : Int) - 1 := by omega
  have hr := rl_le p
  have HC := Lib.hid (shl_can (red_can p) (by rw [red_len]; exact h0) n)
  have HL := Lib.hid (red_len p)
  obtain ⟨i0, hi, hz0, hz1, hz2⟩ := info_parts u8info
  have hmk := make_row n (by omega) 50 Try.underlying50
  have ho1 := one_bytes (red p)
  -- the two orders: the row of zeros first, or the reduced list first
  have hA : Calls Try.prog 41 #[.slice A p.length c] (w.drew.alloc (.cells ((bits8 (fun _ => false) n).map bv).toArray 5)) fun e w' =>
      e = .returned (.slice (some ⟨w.heap.size + 1, 0, none⟩) (rl p) (rl p)) ∧ Hid (w'.ownsRow w.heap.size 5 1 (.slice (some ⟨w.heap.size, 0, none⟩) n n) n ((bits8 (fun _ => false) n).map bv)) ∧
      Hid (∀ j u, ((red p).map bv)[j]? = some u → w'.cell? ((⟨w.heap.size + 1, 0, none⟩ : Addr).add j) = some u) ∧ Hid (Below w.heap.size w w') := by
    generalize hO : Obj.cells ((bits8 (fun _ => false) n).map bv).toArray 5 = O
    have hs : (w.drew.alloc O).heap.size = w.heap.size + 1 := size_alloc w.drew O
    have hbz : Below w.heap.size w (w.drew.alloc O) := (Below.refl _ w).drew.alloc (Nat.le_refl _) _
    have hwz : Whole (w.drew.alloc O) w.heap.size 5 ((bits8 (fun _ => false) n).map bv).toArray := by rw [← hO]; exact Whole.new w.drew _ _
    generalize w.drew.alloc O = w1 at *
    have h := reduce_any A c p w1 ((hp.below hbz).more (by omega)) (by omega)
    rw [hs] at h
    refine h.mono ?_
    rintro e w' ⟨rfl, h1, h2⟩
    have h3 : Below w1.heap.size w1 w' := by rw [hs]; exact h2
    refine ⟨rfl, whole_own (hwz.below h3 hwz.lt) (Nat.le_refl _) (by simp [bits8_len]) (by unfold maxLen; omega), ?_, hbz.trans (h3.mono hbz.size)⟩
    intro j u hu
    rw [add_row, Whole.cell h1]
    simpa using hu
  have hB : Calls Try.prog 41 #[.slice A p.length c] w.drew fun e w' =>
      e = .returned (.slice (some ⟨w.heap.size, 0, none⟩) (rl p) (rl p)) ∧
      Hid ((w'.alloc (.cells ((bits8 (fun _ => false) n).map bv).toArray 5)).ownsRow w.heap.size 5 1 (.slice (some ⟨w'.heap.size, 0, none⟩) n n) n ((bits8 (fun _ => false) n).map bv)) ∧
      Hid (∀ j u, ((red p).map bv)[j]? = some u → (w'.alloc (.cells ((bits8 (fun _ => false) n).map bv).toArray 5)).cell? ((⟨w.heap.size, 0, none⟩ : Addr).add j) = some u) ∧
      Hid (Below w.heap.size w (w'.alloc (.cells ((bits8 (fun _ => false) n).map bv).toArray 5))) := by
    refine (reduce_any A c p w.drew hp (by omega)).mono ?_
    rintro e w' ⟨rfl, h1, h2⟩
    have hb' : Below w.heap.size w w' := (Below.refl _ w).drew.trans h2
    refine ⟨rfl, whole_own (Whole.new w' _ _) hb'.size (by simp [bits8_len]) (by unfold maxLen; omega), ?_, hb'.alloc hb'.size _⟩
    intro j u hu
    rw [add_row]
    refine (Whole.cell (Whole.alloc (show Whole w' w.heap.size _ _ from h1) _) j).trans ?_
    simpa using hu
  have HZ : Hid ((bits8 (fun _ => false) n).map bv ++ (red p).map bv = (bits8 (fun _ => false) n ++ red p).map bv) := by rw [Hid, List.map_append]
  have hk1 : ((red p).map bv).length = rl p * 1 := by rw [List.length_map, red_len, Nat.mul_one]
  have HN : Hid ((bits8 (fun _ => false) n ++ red p).length = n + rl p) := by rw [Hid, List.length_append, bits8_len, red_len]
  generalize (bits8 (fun _ => false) n).map bv = Z at *
  generalize bits8 (fun _ => false) n ++ red p = L at *
  generalize (red p).map bv = R at *
  generalize rl p = r at *
  go_enter Try.func28, Try.ntmps28
  go_wp2_with (go_at_call 40; refine (hD _ hp).mono ?_; rintro e w' ⟨rfl, rfl⟩)
  go_region_law (first
    | (go_simp; go_at_call 41; first
      | (refine hA.mono ?_; rintro e w1 ⟨rfl, hown, hcell, hbel⟩)
      | (refine hB.mono ?_; rintro e w1 ⟨rfl, hown, hcell, hbel⟩))
    | (refine step_append_lies _ rfl (.tmp 17) (.tmp 19) 50 rfl w.heap.size 5 i0 (.int .u8 0) 1 1 Try.underlying50 hi hz0 hz1 hz2 rfl (by decide) _ n Z (by simp [Act.eval]) hown.out _ r r R (by simp [Act.eval]) hk1 hcell.out ho1 h0 (by unfold maxLen; omega) (by omega) hbel.out.size _ rfl ?_; intro g cap w4 hown4 hgrow4 _ _))
  all_goals
    have HB4 := Lib.hid (hbel.out.grown hgrow4 hbel.out.size (fun j e => (hown.out.lt j e).1))
    have HO4 := Lib.hid hown4
    clear hgrow4 hown4
    go_wp2
    go_ret
    refine ⟨_, n + r, cap, L, rfl, ⟨HN.out, (own_cap HO4.out).2.1, HC.out, ?_⟩, HB4.out⟩
    rw [← HZ.out]
    exact Lies.own HO4.out

theorem holds_nil {f : Nat → Bool} (w : World) (h : ∀ i, f i = false) : Holds w f none 0 0 [] := ⟨rfl, Nat.le_refl _, Can.nil h, Lies.nil⟩
theorem shift_all (A : Option Addr) (c : Nat) (p : List UInt8) (n : Nat) (w : World) (hp : Lies w w.heap.size A (p.map bv)) (hlp : p.length ≤ 10000) (hn : n ≤ 10000) :
    Calls Try.prog 28 #[.slice A p.length c, .int .i64 (n : Int)] w fun e w' => ∃ A n' c' L, e = .returned (.slice A n' c') ∧
      Holds w' (shl (co p) n) A n' c' L ∧ Below w.heap.size w w' := by
  rcases Nat.eq_zero_or_pos (rl p) with h0 | h0
  · refine (shift_zero A c _ p n w hp hlp hn h0).mono ?_
    rintro e w' ⟨rfl, rfl⟩
    exact ⟨_, _, _, [], rfl, holds_nil w (shl_none (fun i => rl_above (by omega)) n), Below.refl _ _⟩
  · exact shift_any A c p n w hp hlp hn h0
end Go.Proofs.Ytgjedidpimncaaa
