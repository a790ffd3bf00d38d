/- Layer 7, package shape: Types, Fits, Inside. They write nothing that was there. -/
import Derived.Test.YtemjiijfndnhbaaShapeC
namespace Go.Proofs.Ytemjiijfndnhbaa
open Go.RowKit

theorem u16info : (Try.prog.info? 22).map (fun i => (i.zero, i.size, i.bytes)) = some (some (.int .u16 0), 1, 2) := by kernel_rfl
theorem lies_new2 (w : World) (o : Obj) (u : Value) (t : TypeId) : Lies ((w.alloc o).alloc (.cells #[u] t)) (w.heap.size + 1 + 1) (some ⟨w.heap.size + 1, 0, none⟩) [u] := by
  have := Lies.new1 (w.alloc o) u t
  rwa [World.size_alloc] at this
def tys (L : List Form) : List Value := L.map fun f => hv f.ty
theorem tys_take {L : List Form} {k : Nat} {f : Form} (h : L[k]? = some f) : tys (L.take (k + 1)) = tys (L.take k) ++ [hv f.ty] := by
  unfold tys
  rw [take_some h, List.map_append]
  rfl

set_option maxHeartbeats 1000000 in
theorem types_any (c : Int) (w : World) : Calls Try.prog 16 #[.int .i64 c] w fun e w' => ∃ A c', e = .returned (.slice A (tab c).length c') ∧
    w'.ownsRow w.heap.size 22 1 (.slice A (tab c).length c') (tab c).length (tys (tab c)) ∧ Below w.heap.size w w' := by
  have hT := table_any c
  have hn := tab_len c
  generalize tab c = L at *
  go_enter Try.func16, Try.ntmps16
  go_wp2_with fail
  refine (hT _).mono ?_
  rintro e w1 ⟨A, rfl, hl, b1⟩
  have hs1 := b1.size
  go_wp2_with fail
  go_loopw [3, 9] (fun v i wr => ∃ (k : Nat) (A' : Option Addr) (c' : Nat), k ≤ L.length ∧ i = .int .i64 k ∧ v = .slice A' k c' ∧
      Hid (wr.ownsRow w1.heap.size 22 1 (.slice A' k c') k (tys (L.take k))) ∧ Below w1.heap.size w1 wr) (fun _ i _ => L.length - (intOf i).toNat)
  case atStart => exact ⟨0, none, 0, Nat.zero_le _, rfl, rfl, World.ownsRow_nil _ _ _ _, Below.refl _ _⟩
  case round =>
    obtain ⟨k, A2, c2, hk, rfl, rfl, hown, hbel⟩ := hrel
    have hsz := hbel.size
    by_cases hlt : k < L.length
    · obtain ⟨ad, f, rfl, hb, hf, hcs, hc0, hc1, hc2⟩ := (hl.below hbel).form hlt
      have hnw := hown.out.alloc (.cells #[.int .i64 f.cl, hv f.ty, .string f.nm, .int .i64 f.lo, .int .i64 f.hi, .int .i64 f.un, .int .i64 f.ki] 25)
      have HO := Lib.hid hnw
      clear hnw
      go_wp2_with (first
        | (refine wpList_load_form rfl 25 _ rfl (ad.add (k * 7)) rfl f hcs _ Try.underlying25 rfl (by kernel_rfl) ?_)
        | (refine wpList_new_form rfl 25 _ _ rfl wr _ _ rfl rfl rfl (by kernel_rfl) rfl ?_)
        | (at_builtin; refine wpList_append_lies _ rfl (.tmp 13) (.tmp 16) 35 rfl w1.heap.size 22 _ 2 Try.underlying35 u16info rfl _ _ _ rfl (HO.out.alloc _) _ _ 1 1 [hv f.ty] rfl rfl (lies_new2 _ _ _ _) (by intro u hu; rw [List.mem_singleton.1 hu]; rfl) (by omega) (by unfold maxLen; omega) (by simp; omega) ?_; intro A4 c4 w4 hown4 hgrow4 _))
      have H2 : Hid (w4.ownsRow w1.heap.size 22 1 (.slice A4 (k + 1) c4) (k + 1) (tys (L.take (k + 1)))) := by
        unfold Hid
        rw [tys_take hf.out]
        exact hown4
      have hb4 : Below w1.heap.size w1 w4 := ((hbel.alloc hsz _).alloc (by simp; omega) _).grown hgrow4 (by simp; omega) (fun q e => (hown.out.lt q e).1)
      clear hown4 hgrow4
      go_wp2_with fail
      go_roundw
      case rel => exact ⟨k + 1, A4, c4, by omega, by go_num, rfl, H2, hb4⟩
      case measure => simp [intOf]; omega
    · obtain rfl : k = L.length := by omega
      have HE : Hid (wr.ownsRow w.heap.size 22 1 (.slice A2 L.length c2) L.length (tys L)) := by
        have := own_base hown.out hs1
        rwa [List.take_of_length_le (Nat.le_refl _)] at this
      clear hown
      go_wp2_with fail
      go_ret
      exact ⟨A2, c2, rfl, HE.out, b1.trans (hbel.mono hs1)⟩

/-! ### Fits -/
def fitsB (f : Form) (n : Int) : Bool := decide (f.lo ≤ n) && decide (n ≤ f.hi) && ((n - f.lo) % f.un == 0)
/-- what is in the table: small numbers, and a unit -/
structure Tame (f : Form) : Prop where
  lo : 0 ≤ f.lo ∧ f.lo ≤ 16
  hi : 0 ≤ f.hi ∧ f.hi ≤ 65531
  un : 1 ≤ f.un ∧ f.un ≤ 8

theorem fits_any (f : Form) (hf : Tame f) (n : Int) (w : World) : Calls Try.prog 18 #[f.val, .int .i64 n] w fun e w' => e = .returned (.bool (fitsB f n)) ∧ Below w.heap.size w w' := by
  obtain ⟨⟨h1, h2⟩, ⟨h3, h4⟩, h5, h6⟩ := hf
  unfold Form.val fitsB
  have h7 : 0 < f.un := by omega
  by_cases c1 : f.lo ≤ n
  · have hD1 : Hid (decide (f.lo ≤ n) = true) := decide_eq_true c1
    by_cases c2 : n ≤ f.hi
    · have hD2 : Hid (decide (n ≤ f.hi) = true) := decide_eq_true c2
      have hm : (n - f.lo).tmod f.un = (n - f.lo) % f.un := Int.tmod_eq_emod_of_nonneg (by omega)
      go_enter Try.func18, Try.ntmps18
      go_wp2_with fail
      go_ret
      exact ⟨ret_bool (by rw [hD1.out, hD2.out]; rfl), (Below.refl _ _).alloc (Nat.le_refl _) _⟩
    · have hD2 : Hid (decide (n ≤ f.hi) = false) := decide_eq_false c2
      go_enter Try.func18, Try.ntmps18
      go_wp2_with fail
      go_ret
      exact ⟨ret_bool (by first | (rw [hD1.out, hD2.out]; rfl) | (rw [hD2.out]; rfl)), (Below.refl _ _).alloc (Nat.le_refl _) _⟩
  · have hD1 : Hid (decide (f.lo ≤ n) = false) := decide_eq_false c1
    go_enter Try.func18, Try.ntmps18
    go_wp2_with fail
    go_ret
    exact ⟨ret_bool (by rw [hD1.out]; rfl), (Below.refl _ _).alloc (Nat.le_refl _) _⟩
/-! ### Inside -/
/-- the class, the least and the greatest number of nodes inside -/
def ins (k : Int) : Int × Int × Int := if k = 1 then (1, 1, 1) else if k = 4 then (1, 1, 1) else if k = 2 then (1, 1, 16384) else if k = 3 then (2, 1, 16384) else (0, 0, 0)
theorem inside_any (k : Int) (w : World) : Calls Try.prog 20 #[.int .i64 k] w fun e w' => e = .returned (.tuple #[.int .i64 (ins k).1, .int .i64 (ins k).2.1, .int .i64 (ins k).2.2]) ∧ w = w' := by
  unfold ins
  by_cases h1 : k = 1
  · subst h1
    go_enter Try.func20, Try.ntmps20
    go_wp2_with fail
    go_ret3
    exact ⟨rfl, rfl⟩
  · by_cases h4 : k = 4
    · subst h4
      go_enter Try.func20, Try.ntmps20
      go_wp2_with fail
      go_ret3
      exact ⟨rfl, rfl⟩
    · by_cases h2 : k = 2
      · subst h2
        go_enter Try.func20, Try.ntmps20
        go_wp2_with fail
        go_ret3
        exact ⟨rfl, rfl⟩
      · by_cases h3 : k = 3
        · subst h3
          go_enter Try.func20, Try.ntmps20
          go_wp2_with fail
          go_ret3
          exact ⟨rfl, rfl⟩
        · rw [if_neg h1, if_neg h4, if_neg h2, if_neg h3]
          go_enter Try.func20, Try.ntmps20
          go_wp2_with fail
          go_ret3
          exact ⟨rfl, rfl⟩
end Go.Proofs.Ytemjiijfndnhbaa
