/- Layer 6: what the statements turn lists of frames into, and compare them with; whether they are few. They write nothing that was there. -/
import Derived.Test.YtomplajecekhiaaDoorTlvN
namespace Go.Proofs.YtomplajecekhiaaDoor
open Go.RowKit

theorem Frames.at2 {w : World} {B : Nat} {A : Option Addr} {vs : List Value} {fs : List Fr} (h : Frames w B A vs fs) {k : Nat} (hk : k < fs.length) :
    ∃ ad A' c' f, A = some ad ∧ ad.block < B ∧ Hid (fs[k]? = some f) ∧ w.cell? (ad.add (k * 2)) = some (hv f.t) ∧ w.cell? ⟨(ad.add (k * 2)).block, (ad.add (k * 2)).off + 1, none⟩ = some (.slice A' f.v.length c') ∧ Lies w B A' (f.v.map bv) ∧ f.v.length ≤ c' ∧ c' ≤ maxLen ∧
      Hid (vs.take ((k + 1) * 2) = vs.take (k * 2) ++ [hv f.t, .slice A' f.v.length c']) := by
  obtain ⟨v, hv0, hv1, A', c', rfl, h2, h3, h4⟩ := h.each k _ (List.getElem?_eq_getElem hk)
  have hl := h.len
  obtain ⟨ad, ha, hb, hc⟩ := h.lies (fun e => by rw [e] at hl; simp at hl; omega)
  refine ⟨ad, A', c', fs[k], ha, hb, List.getElem?_eq_getElem hk, hc _ _ hv0, by have h5 := hc _ _ hv1; rw [← add_add'] at h5; exact h5, h2, h3, h4, ?_⟩
  unfold Hid
  rw [show (k + 1) * 2 = k * 2 + 1 + 1 by omega, take_some hv1, take_some hv0, List.append_assoc]
  rfl
theorem rfrinfo : (Tryd.prog.info? 51).map (fun i => (i.zero, i.size, i.bytes)) = some (some (.agg #[.int .u16 0, .slice none 0 0]), 2, 32) := by kernel_rfl
theorem lies_own2 {w : World} {base e size n c : Nat} {A : Option Addr} {xs : List Value} (h : w.ownsRow base e size (.slice A n c) n xs) : Lies w w.heap.size A xs := fun hne => by
  rcases h.2 with ⟨h1, h2⟩ | ⟨g, cap, cur, h1, h2, h3, _⟩
  · refine absurd (List.eq_nil_of_length_eq_zero ?_) hne
    rw [h.1, h2]; simp
  · simp only [Value.slice.injEq] at h1
    obtain ⟨rfl, _, _⟩ := h1
    exact ⟨_, rfl, (Array.getElem?_eq_some_iff.1 h3).1, h.cells (g := g) rfl⟩
theorem own_cap2 {w : World} {base e size n c : Nat} {A : Option Addr} {xs : List Value} (h : w.ownsRow base e size (.slice A n c) n xs) : n ≤ c ∧ c ≤ maxLen := by
  rcases h.2 with ⟨h1, h2⟩ | ⟨g, cap, cur, h1, _, _, h3, h4, _⟩
  · simp only [Value.slice.injEq] at h1
    omega
  · simp only [Value.slice.injEq] at h1
    omega

set_option maxRecDepth 100000 in
set_option maxHeartbeats 2000000 in
theorem given_any (A : Option Addr) (c : Nat) (vs : List Value) (fs : List Fr) (w : World) (h : Frames w w.heap.size A vs fs) (hn : fs.length ≤ 10000000) :
    Calls Tryd.prog 15 #[.slice A fs.length c] w fun e w' => ∃ A' c', e = .returned (.slice A' fs.length c') ∧ Frames w' w'.heap.size A' vs fs ∧ fs.length ≤ c' ∧ c' ≤ maxLen ∧ Below w.heap.size w w' := by
  obtain ⟨i0, hi, hz0, hz1, hz2⟩ := info_parts frinfo
  go_enter Tryd.func15, Tryd.ntmps15
  go_wp2_with fail
  go_loopw [3, 4] (fun v i wr => ∃ (k : Nat) (A' : Option Addr) (c' : Nat), k ≤ fs.length ∧ i = .int .i64 k ∧ v = .slice A' k c' ∧
      wr.ownsRow w.heap.size 48 2 (.slice A' k c') k (vs.take (k * 2)) ∧ Below w.heap.size w wr)
    (fun _ i _ => fs.length - (intOf i).toNat)
  case atStart => exact ⟨0, none, 0, Nat.zero_le _, rfl, rfl, World.ownsRow_nil _ _ _ _, Below.refl _ _⟩
  case round =>
    obtain ⟨k, A2, c2, hk, rfl, rfl, hown, hbel⟩ := hrel
    by_cases hlt : k < fs.length
    · obtain ⟨ad, A', c', f, rfl, hb, hf, hc0, hc1, hl, hlc, hcm, htk⟩ := (h.below hbel).at2 hlt
      have hsz := hbel.size
      have hnew : ∀ j u, [hv f.t, Value.slice A' f.v.length c'][j]? = some u → (wr.alloc (.cells #[hv f.t, .slice A' f.v.length c'] 48)).cell? ((⟨wr.heap.size, 0, none⟩ : Addr).add j) = some u := fun j u hu => by
        rw [add_row, (Whole.new wr 48 #[hv f.t, .slice A' f.v.length c']).cell]
        simpa using hu
      go_wp2_with (at_builtin; refine wpList_append_own _ rfl (.tmp 11) (.tmp 16) 24 rfl w.heap.size 48 i0 _ 2 32 Tryd.underlying24 hi hz0 hz1 hz2 rfl (by omega) _ _ _ rfl (hown.alloc _) _ 1 1 [hv f.t, .slice A' f.v.length c'] rfl rfl hnew (by intro u hu; simp at hu; rcases hu with rfl | rfl <;> rfl) (by unfold maxLen; omega) (by omega) (by simp; omega) ?_; intro v' w1 hown' hgrow' _; obtain ⟨A1, c1, rfl⟩ := own_slice hown')
      have hb1 : Below w.heap.size w w1 := (hbel.alloc hsz _).grown hgrow' (by simp; omega) (fun q e => (hown.lt q e).1)
      have H2 : Hid (w1.ownsRow w.heap.size 48 2 (.slice A1 (k + 1) c1) (k + 1) (vs.take ((k + 1) * 2))) := by
        rw [Hid, htk.out]
        exact hown'
      clear hown' hgrow' hown
      go_wp2_with fail
      go_roundw
      case rel => exact ⟨k + 1, A1, c1, by omega, by go_num, rfl, H2.out, hb1⟩
      case measure => simp [intOf]; omega
    · obtain rfl : k = fs.length := by omega
      have hl := h.len
      rw [List.take_of_length_le (by omega)] at hown
      have H1 := Lib.hid hown
      clear hown
      go_wp2_with fail
      go_ret
      have hcap := own_cap2 H1.out
      exact ⟨A2, c2, rfl, ⟨lies_own2 H1.out, hl, fun i f hf => by obtain ⟨v, q1, q2, q3⟩ := h.each i f hf; exact ⟨v, q1, q2, q3.on hbel⟩⟩, hcap.1, hcap.2, hbel⟩

set_option maxRecDepth 100000 in
set_option maxHeartbeats 2000000 in
theorem back_any (A : Option Addr) (c : Nat) (vs : List Value) (fs : List Fr) (w : World) (h : Frames w w.heap.size A vs fs) (hn : fs.length ≤ 10000000) :
    Calls Tryd.prog 12 #[.slice A fs.length c] w fun e w' => ∃ A' c', e = .returned (.slice A' fs.length c') ∧ Frames w' w'.heap.size A' vs fs ∧ fs.length ≤ c' ∧ c' ≤ maxLen ∧ Below w.heap.size w w' := by
  obtain ⟨i0, hi, hz0, hz1, hz2⟩ := info_parts rfrinfo
  go_enter Tryd.func12, Tryd.ntmps12
  go_wp2_with fail
  go_loopw [3, 4] (fun v i wr => ∃ (k : Nat) (A' : Option Addr) (c' : Nat), k ≤ fs.length ∧ i = .int .i64 k ∧ v = .slice A' k c' ∧
      wr.ownsRow w.heap.size 51 2 (.slice A' k c') k (vs.take (k * 2)) ∧ Below w.heap.size w wr)
    (fun _ i _ => fs.length - (intOf i).toNat)
  case atStart => exact ⟨0, none, 0, Nat.zero_le _, rfl, rfl, World.ownsRow_nil _ _ _ _, Below.refl _ _⟩
  case round =>
    obtain ⟨k, A2, c2, hk, rfl, rfl, hown, hbel⟩ := hrel
    by_cases hlt : k < fs.length
    · obtain ⟨ad, A', c', f, rfl, hb, hf, hc0, hc1, hl, hlc, hcm, htk⟩ := (h.below hbel).at2 hlt
      have hsz := hbel.size
      have hnew : ∀ j u, [hv f.t, Value.slice A' f.v.length c'][j]? = some u → (wr.alloc (.cells #[hv f.t, .slice A' f.v.length c'] 51)).cell? ((⟨wr.heap.size, 0, none⟩ : Addr).add j) = some u := fun j u hu => by
        rw [add_row, (Whole.new wr 51 #[hv f.t, .slice A' f.v.length c']).cell]
        simpa using hu
      go_wp2_with (at_builtin; refine wpList_append_own _ rfl (.tmp 11) (.tmp 16) 29 rfl w.heap.size 51 i0 _ 2 32 Tryd.underlying29 hi hz0 hz1 hz2 rfl (by omega) _ _ _ rfl (hown.alloc _) _ 1 1 [hv f.t, .slice A' f.v.length c'] rfl rfl hnew (by intro u hu; simp at hu; rcases hu with rfl | rfl <;> rfl) (by unfold maxLen; omega) (by omega) (by simp; omega) ?_; intro v' w1 hown' hgrow' _; obtain ⟨A1, c1, rfl⟩ := own_slice hown')
      have hb1 : Below w.heap.size w w1 := (hbel.alloc hsz _).grown hgrow' (by simp; omega) (fun q e => (hown.lt q e).1)
      have H2 : Hid (w1.ownsRow w.heap.size 51 2 (.slice A1 (k + 1) c1) (k + 1) (vs.take ((k + 1) * 2))) := by
        rw [Hid, htk.out]
        exact hown'
      clear hown' hgrow' hown
      go_wp2_with fail
      go_roundw
      case rel => exact ⟨k + 1, A1, c1, by omega, by go_num, rfl, H2.out, hb1⟩
      case measure => simp [intOf]; omega
    · obtain rfl : k = fs.length := by omega
      have hl := h.len
      rw [List.take_of_length_le (by omega)] at hown
      have H1 := Lib.hid hown
      clear hown
      go_wp2_with fail
      go_ret
      have hcap := own_cap2 H1.out
      exact ⟨A2, c2, rfl, ⟨lies_own2 H1.out, hl, fun i f hf => by obtain ⟨v, q1, q2, q3⟩ := h.each i f hf; exact ⟨v, q1, q2, q3.on hbel⟩⟩, hcap.1, hcap.2, hbel⟩

/-! ### Few -/
def nsum (fs : List Fr) : Nat := (fs.map fun f => f.v.length).sum
theorem nsum_take {fs : List Fr} {k : Nat} {f : Fr} (h : fs[k]? = some f) : nsum (fs.take (k + 1)) = nsum (fs.take k) + f.v.length := by
  rw [take_some h]
  simp [nsum]
theorem nsum_le {fs : List Fr} {m : Nat} (h : ∀ f ∈ fs, f.v.length ≤ m) : nsum fs ≤ fs.length * m := by
  induction fs with
  | nil => simp [nsum]
  | cons f fs ih =>
    have h1 := ih fun q hq => h q (List.mem_cons_of_mem _ hq)
    have h2 := h f List.mem_cons_self
    simp only [nsum, List.map_cons, List.sum_cons, List.length_cons] at h1 ⊢
    rw [Nat.add_mul]
    omega
theorem nsum_mem {fs : List Fr} {f : Fr} (h : f ∈ fs) : f.v.length ≤ nsum fs := by
  induction fs with
  | nil => cases h
  | cons g fs ih =>
    simp only [nsum, List.map_cons, List.sum_cons] at ih ⊢
    rcases List.mem_cons.1 h with rfl | h
    · omega
    · have := ih h
      omega
def fewB (fs : List Fr) : Bool := decide (fs.length ≤ 50 ∧ nsum fs ≤ 140000)
set_option maxRecDepth 100000 in
theorem few_any (A : Option Addr) (c : Nat) (vs : List Value) (fs : List Fr) (w : World) (h : Frames w w.heap.size A vs fs) (hn : fs.length ≤ maxLen) (hv : ∀ f ∈ fs, f.v.length ≤ 140737488355328) :
    Calls Tryd.prog 14 #[.slice A fs.length c] w fun e w' => e = .returned (.bool (fewB fs)) ∧ Below w.heap.size w w' := by
  unfold maxLen at hn
  by_cases h50 : fs.length ≤ 50
  · have hB := Lib.hid fun k => nsum_le (fs := fs.take k) (m := 140737488355328) (fun f hf => hv f (List.mem_of_mem_take hf))
    have h50' : (fs.length : Int) ≤ 50 := by omega
    have HV := Lib.hid hv
    clear hv
    go_enter Tryd.func14, Tryd.ntmps14
    go_wp2_with fail
    go_loopw [3, 4] (fun v i wr => ∃ k : Nat, k ≤ fs.length ∧ i = .int .i64 k ∧ v = .int .i64 (nsum (fs.take k) : Nat) ∧ Below w.heap.size w wr) (fun _ i _ => fs.length - (intOf i).toNat)
    case atStart => exact ⟨0, Nat.zero_le _, rfl, rfl, Below.refl _ _⟩
    case round =>
      obtain ⟨k, hk, rfl, rfl, hbel⟩ := hrel
      have hnk : nsum (fs.take k) ≤ 50 * 140737488355328 := by
        have h1 := hB.out k
        rw [List.length_take] at h1
        have h2 : min k fs.length * 140737488355328 ≤ 50 * 140737488355328 := Nat.mul_le_mul_right _ (by omega)
        exact Nat.le_trans h1 h2
      by_cases hlt : k < fs.length
      · obtain ⟨ad, A', c', f, rfl, hb, hf, hc0, hc1, hl, hlc, hcm⟩ := (h.below hbel).at_ hlt
        have hfv := HV.out f (List.mem_of_getElem? hf.out)
        have HT := Lib.hid (nsum_take hf.out)
        generalize nsum (fs.take k) = s at *
        go_wp2_with fail
        go_roundw
        case rel => exact ⟨k + 1, by omega, by go_num, by rw [HT.out]; go_num, hbel⟩
        case measure => simp [intOf]; omega
      · obtain rfl : k = fs.length := by omega
        rw [List.take_length] at hnk ⊢
        have HF : Hid (∀ b : Bool, b = decide (nsum fs ≤ 140000) → b = fewB fs) := fun b hb => by rw [hb]; unfold fewB; simp [h50]
        by_cases hs : nsum fs ≤ 140000
        · have hs' : (nsum fs : Int) ≤ 140000 := by omega
          have HF2 := Lib.hid (HF.out true (decide_eq_true hs).symm)
          clear HF hs
          generalize nsum fs = s at *
          go_wp2_with fail
          go_ret
          exact ⟨ret_bool HF2.out, hbel⟩
        · have hs' : (140000 : Int) < (nsum fs : Int) := by omega
          have HF2 := Lib.hid (HF.out false (decide_eq_false hs).symm)
          clear HF hs
          generalize nsum fs = s at *
          go_wp2_with fail
          go_ret
          exact ⟨ret_bool (by rw [← HF2.out]; exact decide_eq_false (by omega)), hbel⟩
  · have h50' : (50 : Int) < (fs.length : Int) := by omega
    have HF2 : Hid (false = fewB fs) := by unfold Hid fewB; simp [h50]
    have HV := Lib.hid hv
    clear hv h50
    go_enter Tryd.func14, Tryd.ntmps14
    go_wp2_with fail
    go_loopw [3, 4] (fun v i wr => ∃ (k : Nat) (z : Int), k ≤ fs.length ∧ i = .int .i64 k ∧ v = .int .i64 z ∧ Below w.heap.size w wr) (fun _ i _ => fs.length - (intOf i).toNat)
    case atStart => exact ⟨0, 0, Nat.zero_le _, rfl, rfl, Below.refl _ _⟩
    case round =>
      obtain ⟨k, z, hk, rfl, rfl, hbel⟩ := hrel
      by_cases hlt : k < fs.length
      · obtain ⟨ad, A', c', f, rfl, hb, hf, hc0, hc1, hl, hlc, hcm⟩ := (h.below hbel).at_ hlt
        have hfv := HV.out f (List.mem_of_getElem? hf.out)
        go_wp2_with fail
        go_roundw
        case rel => exact ⟨k + 1, _, by omega, by go_num, rfl, hbel⟩
        case measure => simp [intOf]; omega
      · obtain rfl : k = fs.length := by omega
        go_wp2_with fail
        go_ret
        exact ⟨ret_bool HF2.out, hbel⟩

/-! ### Same, of two lists that are the same -/
set_option maxRecDepth 100000 in
set_option maxHeartbeats 2000000 in
theorem rsame6_eq (A A' : Option Addr) (c c' B B' : Nat) (vs us : List Value) (fs : List Fr) (w : World) (h : Frames w B A vs fs) (k : Frames w B' A' us fs) (hB : B ≤ w.heap.size) (hB' : B' ≤ w.heap.size) (hn : fs.length ≤ 10000000) (hv : ∀ f ∈ fs, f.v.length ≤ 140737488355328) :
    Calls Tryd.prog 11 #[.slice A fs.length c, .slice A' fs.length c'] w fun e w' => e = .returned (.bool true) ∧ Below w.heap.size w w' := by
  have hneq : ((fs.length : Int) != (fs.length : Int)) = false := by simp
  have HV := Lib.hid hv
  clear hv
  go_enter Tryd.func11, Tryd.ntmps11
  go_wp2_with fail
  go_loopw [5] (fun i wr => ∃ m : Nat, m ≤ fs.length ∧ i = .int .i64 m ∧ Below w.heap.size w wr) (fun i _ => fs.length - (intOf i).toNat)
  case atStart => exact ⟨0, Nat.zero_le _, rfl, Below.refl _ _⟩
  case round =>
    obtain ⟨m, hm, rfl, hbel⟩ := hrel
    by_cases hlt : m < fs.length
    · obtain ⟨ad, A2, c2, f, rfl, hb, hf, hc0, hc1, hl, hlc, hcm⟩ := (h.below (hbel.mono hB)).at_ hlt
      obtain ⟨ad', A3, c3, f', rfl, hb', hf', hd0, hd1, hl', _⟩ := (k.below (hbel.mono hB')).at_ hlt
      have e : f' = f := by have h1 := hf'.out; rw [hf.out] at h1; exact (Option.some.inj h1).symm
      subst e
      have hfv := HV.out f' (List.mem_of_getElem? hf.out)
      have ht : ((f'.t.toNat : Int) != (f'.t.toNat : Int)) = false := by simp
      have hS := fun W (hW : Below wr.heap.size wr W) => same_any A2 A3 c2 c3 w.heap.size f'.v f'.v W ((hl.more hB).below (hW.mono hbel.size)) ((hl'.more hB').below (hW.mono hbel.size)) (by unfold maxLen; omega)
      have hI1 : (m : Int) < (fs.length : Int) := by omega
      simp only [decide_true] at hS
      go_wp2_with fail
      go_region_held3 (fun W => W.cell? (ad.add (m * 2)) = some (hv f'.t) ∧ W.cell? ⟨(ad.add (m * 2)).block, (ad.add (m * 2)).off + 1, none⟩ = some (.slice A2 f'.v.length c2) ∧ W.cell? (ad'.add (m * 2)) = some (hv f'.t) ∧ W.cell? ⟨(ad'.add (m * 2)).block, (ad'.add (m * 2)).off + 1, none⟩ = some (.slice A3 f'.v.length c3)) (go_keep) (first | (go_at_call 13; refine (hS _ (below_drew (Below.refl _ _))).mono ?_; rintro e w1 ⟨rfl, q, rfl⟩))
      have hb2 := below_drewN hbel (1 + q)
      go_wp2_with fail
      go_roundw
      case rel => exact ⟨m + 1, by omega, by go_num, hb2⟩
      case measure => simp [intOf]; omega
    · go_wp2_with fail
      go_ret
      exact ⟨rfl, hbel⟩
end Go.Proofs.YtomplajecekhiaaDoor
