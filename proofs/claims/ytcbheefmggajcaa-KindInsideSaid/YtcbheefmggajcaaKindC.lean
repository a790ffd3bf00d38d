/- Layer 11, package kind: Types, Fits, Inside. They write nothing that was there. -/
import Derived.Test.YtcbheefmggajcaaKindB
import Derived.Test.YtcbheefmggajcaaSame


namespace Go.Proofs.Ytcbheefmggajcaa
open Go.RowKit


theorem lies_new2 (w : World) (o : Obj) (u : Value) (t : TypeId) : Lies ((w.alloc o).alloc (.cells #[u] t)) (w.heap.size + 1 + 1) (some ⟨w.heap.size + 1, 0, none⟩) [u] := by
  have := Lies.new1 (w.alloc o) u t
  rwa [World.size_alloc] at this
def ktys (L : List Kd) : List Value := L.map fun f => bv f.ty
theorem ktys_take {L : List Kd} {k : Nat} {f : Kd} (h : L[k]? = some f) : ktys (L.take (k + 1)) = ktys (L.take k) ++ [bv f.ty] := by
  unfold ktys
  rw [take_some h, List.map_append]
  rfl

set_option maxHeartbeats 1000000 in
theorem ktypes_any (w : World) : Calls Try.prog 15 #[] w fun e w' => ∃ A c', e = .returned (.slice A 23 c') ∧
    w'.ownsRow w.heap.size 5 1 (.slice A 23 c') 23 (ktys kT) ∧ Below w.heap.size w w' := by
  have hT := ktable_any
  have hlen : kT.length = 23 := rfl
  generalize kT = L at *
  go_enter Try.func15, Try.ntmps15
  go_wp2_with fail
  refine (hT _).mono ?_
  rintro e w1 ⟨rfl, b1⟩
  have hs1 := b1.size
  clear hT
  go_wp2_with fail
  go_loopw [1, 5] (fun v i wr => ∃ (k : Nat) (A' : Option Addr) (c' : Nat), k ≤ 23 ∧ i = .int .i64 k ∧ v = .slice A' k c' ∧
      Hid (wr.ownsRow w1.heap.size 5 1 (.slice A' k c') k (ktys (L.take k))) ∧ Below w1.heap.size w1 wr) (fun _ i _ => 23 - (intOf i).toNat)
  case atStart => exact ⟨0, none, 0, Nat.zero_le _, rfl, rfl, World.ownsRow_nil _ _ _ _, Below.refl _ _⟩
  case round =>
    obtain ⟨k, A2, c2, hk, rfl, rfl, hown, hbel⟩ := hrel
    have hsz := hbel.size
    by_cases hlt : k < 23
    · obtain ⟨f, hf⟩ : ∃ f, Hid (L[k]? = some f) := ⟨_, List.getElem?_eq_getElem (by omega)⟩
      have hnw := hown.out.alloc (.cells #[bv f.ty, .string f.nm, bv f.ms, .int .i64 f.lo, .int .i64 f.hi, .int .i64 f.un, .int .i64 f.ki] 24)
      have HO := Lib.hid hnw
      clear hnw
      have hx0 := (Whole.new wr 24 #[bv f.ty, .string f.nm, bv f.ms, .int .i64 f.lo, .int .i64 f.hi, .int .i64 f.un, .int .i64 f.ki]).cell 0
      simp only [List.getElem?_toArray, List.getElem?_cons_zero] at hx0
      go_wp2_with (first
        | (refine wpList_index_kd rfl 49 24 _ _ rfl L k f rfl rfl hf.out (by rw [hlen]; exact Try.underlying49) _ Try.underlying24 rfl (by kernel_rfl) ?_)
        | (refine wpList_new_kd rfl 24 _ _ rfl wr _ _ rfl rfl rfl (by kernel_rfl) rfl ?_)
        | (at_builtin; refine wpList_append_lies _ rfl (.tmp 8) (.tmp 11) 35 rfl w1.heap.size 5 _ 1 Try.underlying35 u8info rfl _ _ _ rfl (HO.out.alloc _) _ _ 1 1 [bv f.ty] rfl rfl (lies_new2 _ _ _ _) (by intro u hu; rw [List.mem_singleton.1 hu]; rfl) (by omega) (by unfold maxLen; omega) (by simp; omega) ?_; intro A4 c4 w4 hown4 hgrow4 _))
      have H2 : Hid (w4.ownsRow w1.heap.size 5 1 (.slice A4 (k + 1) c4) (k + 1) (ktys (L.take (k + 1)))) := by
        unfold Hid
        rw [ktys_take hf.out]
        exact hown4
      have hb4 : Below w1.heap.size w1 w4 := ((hbel.alloc hsz _).alloc (by simp; omega) _).grown hgrow4 (by simp; omega) (fun q e => (hown.out.lt q e).1)
      clear hown4 hgrow4
      go_wp2_with fail
      go_roundw
      case rel => exact ⟨k + 1, A4, c4, by omega, by go_num, rfl, H2, hb4⟩
      case measure => simp [intOf]; omega
    · obtain rfl : k = 23 := by omega
      have HE : Hid (wr.ownsRow w.heap.size 5 1 (.slice A2 23 c2) 23 (ktys L)) := by
        have := own_base hown.out hs1
        rwa [List.take_of_length_le (by omega)] at this
      clear hown
      go_wp2_with fail
      go_ret
      exact ⟨A2, c2, rfl, HE.out, b1.trans (hbel.mono hs1)⟩

/-! ### Fits -/
def kfitsB (f : Kd) (n : Int) : Bool := decide (f.lo ≤ n) && decide (n ≤ f.hi) && ((n - f.lo) % f.un == 0)
/-- what is in the table: small numbers, and a unit -/
structure KTame (f : Kd) : Prop where
  lo : 0 ≤ f.lo ∧ f.lo ≤ 17
  hi : 0 ≤ f.hi ∧ f.hi ≤ 65531
  un : 1 ≤ f.un ∧ f.un ≤ 8

theorem kfits_any (f : Kd) (hf : KTame f) (n : Int) (w : World) : Calls Try.prog 18 #[f.val, .int .i64 n] w fun e w' => e = .returned (.bool (kfitsB f n)) ∧ Below w.heap.size w w' := by
  obtain ⟨⟨h1, h2⟩, ⟨h3, h4⟩, h5, h6⟩ := hf
  unfold Kd.val kfitsB
  have h7 : 0 < f.un := by omega
  by_cases c1 : f.lo ≤ n
  · have hD1 : Hid (decide (f.lo ≤ n) = true) := decide_eq_true c1
    by_cases c2 : n ≤ f.hi
    · have hD2 : Hid (decide (n ≤ f.hi) = true) := decide_eq_true c2
      have hm : (n - f.lo).tmod f.un = (n - f.lo) % f.un := Int.tmod_eq_emod_of_nonneg (by omega)
      go_enter Try.func18, Try.ntmps18
      go_wp2_with fail
      go_ret
      exact ⟨ret_bool (by rw [hD1.out, hD2.out]; rfl), (Below.refl _ _).alloc (Nat.le_refl _) _⟩
    · have hD2 : Hid (decide (n ≤ f.hi) = false) := decide_eq_false c2
      go_enter Try.func18, Try.ntmps18
      go_wp2_with fail
      go_ret
      exact ⟨ret_bool (by first | (rw [hD1.out, hD2.out]; rfl) | (rw [hD2.out]; rfl)), (Below.refl _ _).alloc (Nat.le_refl _) _⟩
  · have hD1 : Hid (decide (f.lo ≤ n) = false) := decide_eq_false c1
    go_enter Try.func18, Try.ntmps18
    go_wp2_with fail
    go_ret
    exact ⟨ret_bool (by rw [hD1.out]; rfl), (Below.refl _ _).alloc (Nat.le_refl _) _⟩
/-! ### Inside -/
/-- the class, the least and the greatest number of nodes inside -/
def kins (k : Int) : Int × Int × Int := if k = 1 then (1, 1, 1) else if k = 2 then (1, 0, 16384) else if k = 3 then (2, 0, 16384) else if k = 4 then (2, 1, 16384) else if k = 5 then (1, 1, 2) else if k = 6 then (1, 2, 16384) else (0, 0, 0)
theorem kinside_any (k : Int) (w : World) : Calls Try.prog 20 #[.int .i64 k] w fun e w' => e = .returned (.tuple #[.int .i64 (kins k).1, .int .i64 (kins k).2.1, .int .i64 (kins k).2.2]) ∧ w = w' := by
  unfold kins
  by_cases h1 : k = 1
  · subst h1
    go_enter Try.func20, Try.ntmps20
    go_wp2_with fail
    go_ret3
    exact ⟨rfl, rfl⟩
  · skip
    by_cases h2 : k = 2
    · subst h2
      go_enter Try.func20, Try.ntmps20
      go_wp2_with fail
      go_ret3
      exact ⟨rfl, rfl⟩
    · skip
      by_cases h3 : k = 3
      · subst h3
        go_enter Try.func20, Try.ntmps20
        go_wp2_with fail
        go_ret3
        exact ⟨rfl, rfl⟩
      · skip
        by_cases h4 : k = 4
        · subst h4
          go_enter Try.func20, Try.ntmps20
          go_wp2_with fail
          go_ret3
          exact ⟨rfl, rfl⟩
        · skip
          by_cases h5 : k = 5
          · subst h5
            go_enter Try.func20, Try.ntmps20
            go_wp2_with fail
            go_ret3
            exact ⟨rfl, rfl⟩
          · skip
            by_cases h6 : k = 6
            · subst h6
              go_enter Try.func20, Try.ntmps20
              go_wp2_with fail
              go_ret3
              exact ⟨rfl, rfl⟩
            · rw [if_neg h1, if_neg h2, if_neg h3, if_neg h4, if_neg h5, if_neg h6]
              go_enter Try.func20, Try.ntmps20
              go_wp2_with fail
              go_ret3
              exact ⟨rfl, rfl⟩
end Go.Proofs.Ytcbheefmggajcaa

