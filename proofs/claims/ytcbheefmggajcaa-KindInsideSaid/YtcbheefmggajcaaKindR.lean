/- Layer 11: the reference: Of, Fits, Number, Class. They write nothing that was there. -/
import Derived.Test.YtcbheefmggajcaaKindC

namespace Go.Proofs.Ytcbheefmggajcaa
open Go.RowKit


theorem rktab_any (w : World) : Calls Try.prog 14 #[] w fun e w' => ∃ ad : Addr, e = .returned (.slice (some ad) 23 23) ∧ w.heap.size ≤ ad.block ∧ Lies w' w'.heap.size (some ad) (kflat kT) ∧ Below w.heap.size w w' :=
  (rktable_any w).mono fun e w' ⟨h1, h2⟩ => by
    subst h2
    exact ⟨_, h1, Nat.le_refl _, (Lies.newN w (kflat kT) 27).more (by simp), (Below.refl _ _).alloc (Nat.le_refl _) _⟩

set_option maxHeartbeats 2000000 in
theorem rkof_any (t : UInt8) (w : World) : Calls Try.prog 10 #[bv t] w fun e w' => e = .returned (kV (klook t)) ∧ Below w.heap.size w w' := by
  unfold klook
  have hT := rktab_any
  have hlen : kT.length = 23 := rfl
  have HS : Hid (∀ (k : Nat) (f : Kd), KNo (fun f => decide (f.ty = t)) kT k → kT[k]? = some f → decide (f.ty = t) = true → kT.find? (fun f => decide (f.ty = t)) = some f) := fun k f => kfind_some
  have HE : Hid (KNo (fun f => decide (f.ty = t)) kT 23 → kT.find? (fun f => decide (f.ty = t)) = none) := kfind_none (L := kT)
  generalize kT.find? (fun f => decide (f.ty = t)) = r at *
  generalize kT = L at *
  go_enter Try.func10, Try.ntmps10
  go_wp2_with fail
  refine (hT _).mono ?_
  rintro e w1 ⟨ad0, rfl, _, hl, b1⟩
  have hW1 := (Whole.new w 27 zkd).below b1 (by simp)
  have hb1 : Below w.heap.size w w1 := ((Below.refl _ w).alloc (Nat.le_refl _) _).trans (b1.mono (by simp))
  go_wp2_with fail
  go_loop [5] (fun i => ∃ k : Nat, k ≤ 23 ∧ i = .int .i64 k ∧ Hid (KNo (fun f => decide (f.ty = t)) L k)) (fun i => 23 - (intOf i).toNat)
  case atStart => exact ⟨0, by omega, rfl, KNo.zero _ _⟩
  case round =>
    obtain ⟨k, hk, rfl, hno⟩ := hrel
    by_cases hlt : k < 23
    · obtain ⟨ad, f, e', hb, hf, hcs, hc0, hc1⟩ := hl.kd (by omega : k < L.length)
      cases e'
      by_cases hft : f.ty = t
      · have HL := Lib.hid (HS.out k f hno.out hf.out (by simpa using hft))
        subst hft
        go_wp2_with (first | (refine wpList_load_kd rfl 27 _ rfl (ad0.add (k * 7)) rfl f hcs _ Try.underlying27 rfl (by kernel_rfl) ?_) | (refine wpList_store_kd rfl 27 _ _ rfl w.heap.size rfl rfl _ _ hW1 (by kernel_rfl) rfl ?_))
        (try simp only [Exit.inBlock, Exit.then])
        refine bodyPost_ret (results_row_tmp rfl _ _ w.heap.size 27 _ _ rfl (hW1.setRow _) Try.underlying27 rfl (by kernel_rfl)) rfl ?_
        exact ⟨by rw [HL.out]; rfl, below_setRow hb1 (Nat.le_refl _) _⟩
      · have HN := Lib.hid (hno.out.next hf.out (by simpa using hft))
        have hne : ((f.ty.toNat : Int) == (t.toNat : Int)) = false := by
          rw [beq_eq_false_iff_ne]
          exact fun h => hft (UInt8.toNat_inj.1 (by omega))
        clear hft
        go_wp2_with fail
        go_round
        case rel => exact ⟨k + 1, by omega, by go_num, HN⟩
        case measure => simp [intOf]; omega
    · obtain rfl : k = 23 := by omega
      have HL := Lib.hid (HE.out hno.out)
      go_wp2_with (first | (refine wpList_store_kd rfl 27 _ _ rfl w.heap.size rfl rfl _ _ hW1 (by kernel_rfl) rfl ?_))
      (try simp only [Exit.inBlock, Exit.then])
      refine bodyPost_ret (results_row_tmp rfl _ _ w.heap.size 27 _ _ rfl (hW1.setRow _) Try.underlying27 rfl (by kernel_rfl)) rfl ?_
      exact ⟨by rw [HL.out]; rfl, below_setRow hb1 (Nat.le_refl _) _⟩

set_option maxHeartbeats 1000000 in
theorem rknumber_any (n : Nat) (hn : n ≤ 9223372036854775807) (w : World) : Calls Try.prog 17 #[.int .i64 (n : Int)] w fun e w' => ∃ f, f ∈ kT ∧ e = .returned f.val ∧ Below w.heap.size w w' := by
  have hT := rktab_any
  have hwl : kT.length = 23 := rfl
  generalize kT = L at *
  have hm : n % 23 < 23 := Nat.mod_lt _ (by omega)
  have e1 : (n : Int) % 23 = ((n % 23 : Nat) : Int) := by omega
  generalize n % 23 = m at *
  go_enter Try.func17, Try.ntmps17
  go_wp2_with fail
  refine (hT _).mono ?_
  rintro e w1 ⟨ad0, rfl, _, hl, b1⟩
  have hW1 := (Whole.new w 27 zkd).below b1 (by simp)
  have hb1 : Below w.heap.size w w1 := ((Below.refl _ w).alloc (Nat.le_refl _) _).trans (b1.mono (by simp))
  obtain ⟨ad, f, e', hb, hf, hcs, hc0, hc1⟩ := hl.kd (by omega : m % 23 < L.length)
  cases e'
  go_wp2_with (first | (refine wpList_load_kd rfl 27 _ rfl (ad0.add (m % 23 * 7)) rfl f hcs _ Try.underlying27 rfl (by kernel_rfl) ?_) | (refine wpList_store_kd rfl 27 _ _ rfl w.heap.size rfl rfl _ _ hW1 (by kernel_rfl) rfl ?_))
  (try simp only [Exit.inBlock, Exit.then])
  refine bodyPost_ret (results_cell_row rfl _ _ w.heap.size 27 _ (0, 0) _ rfl (hW1.setRow _) Try.underlying27 rfl (by kernel_rfl)) rfl ?_
  exact ⟨f, List.mem_of_getElem? hf.out, rfl, below_setRow hb1 (Nat.le_refl _) _⟩

/-! ### Fits of the reference -/
theorem kstep_fits {lo n k un : Int} (_hu : 0 < un) (h1 : (k - lo) % un = 0) (h2 : ¬ (lo ≤ n ∧ n < k ∧ (n - lo) % un = 0)) (hne : ¬ k = n) :
    (k + un - lo) % un = 0 ∧ ¬ (lo ≤ n ∧ n < k + un ∧ (n - lo) % un = 0) := by
  refine ⟨?_, fun ⟨a, b, c⟩ => ?_⟩
  · rw [show k + un - lo = (k - lo) + un by omega, Int.add_emod_right]
    exact h1
  · by_cases hk : n < k
    · exact h2 ⟨a, hk, c⟩
    · have hd : un ∣ (n - lo) - (k - lo) := Int.dvd_sub (Int.dvd_of_emod_eq_zero c) (Int.dvd_of_emod_eq_zero h1)
      have := Int.le_of_dvd (by omega) hd
      omega

set_option maxHeartbeats 1000000 in
theorem rkfits_any (f : Kd) (hf : KTame f) (n : Int) (w : World) : Calls Try.prog 19 #[f.val, .int .i64 n] w fun e w' => e = .returned (.bool (kfitsB f n)) ∧ Below w.heap.size w w' := by
  obtain ⟨⟨h1, h2⟩, ⟨h3, h4⟩, h5, h6⟩ := hf
  have hW := Whole.new w 27 #[bv f.ty, .string f.nm, bv f.ms, .int .i64 f.lo, .int .i64 f.hi, .int .i64 f.un, .int .i64 f.ki]
  have c3 := hW.cell 3
  have c4 := hW.cell 4
  have c5 := hW.cell 5
  have hb : Below w.heap.size w (w.alloc (.cells #[bv f.ty, .string f.nm, bv f.ms, .int .i64 f.lo, .int .i64 f.hi, .int .i64 f.un, .int .i64 f.ki] 27)) := (Below.refl _ _).alloc (Nat.le_refl _) _
  simp only [List.getElem?_toArray, List.getElem?_cons_zero, List.getElem?_cons_succ] at c3 c4 c5
  have hS : ∀ k : Int, (k - f.lo) % f.un = 0 → ¬ (f.lo ≤ n ∧ n < k ∧ (n - f.lo) % f.un = 0) → ¬ k = n → (k + f.un - f.lo) % f.un = 0 ∧ ¬ (f.lo ≤ n ∧ n < k + f.un ∧ (n - f.lo) % f.un = 0) := fun k => kstep_fits (by omega)
  have hY : ∀ k : Int, f.lo ≤ k → k ≤ f.hi → (k - f.lo) % f.un = 0 → kfitsB f k = true := fun k a b c => by
    unfold kfitsB
    rw [decide_eq_true a, decide_eq_true b, c]
    rfl
  have hN : ∀ k : Int, f.hi < k → ¬ (f.lo ≤ n ∧ n < k ∧ (n - f.lo) % f.un = 0) → kfitsB f n = false := fun k a b => by
    unfold kfitsB
    by_cases d1 : f.lo ≤ n
    · by_cases d2 : n ≤ f.hi
      · have d3 : ¬ (n - f.lo) % f.un = 0 := fun d3 => b ⟨d1, by omega, d3⟩
        simp [d3]
      · simp [d2]
    · simp [d1]
  unfold Kd.val
  have HS := Lib.hid hS
  have HY := Lib.hid hY
  have HNo := Lib.hid hN
  clear hS hY hN hW
  generalize hfB : kfitsB f n = b at *
  go_enter Try.func19, Try.ntmps19
  go_wp2_with fail
  generalize w.alloc (.cells #[bv f.ty, .string f.nm, bv f.ms, .int .i64 f.lo, .int .i64 f.hi, .int .i64 f.un, .int .i64 f.ki] 27) = w1 at *
  go_loop [5] (fun i => ∃ k : Int, i = .int .i64 k ∧ f.lo ≤ k ∧ k ≤ 65539 ∧ Hid ((k - f.lo) % f.un = 0) ∧ Hid (¬ (f.lo ≤ n ∧ n < k ∧ (n - f.lo) % f.un = 0))) (fun i => (65540 - intOf i).toNat)
  case atStart => exact ⟨f.lo, rfl, Int.le_refl _, by omega, by unfold Hid; simp, fun ⟨a, b, _⟩ => by omega⟩
  case round =>
    obtain ⟨k, rfl, hk1, hk2, hk3, hk4⟩ := hrel
    by_cases hle : k ≤ f.hi
    · by_cases hkn : k = n
      · have HB := Lib.hid (HY.out k hk1 hle hk3.out)
        rw [hkn, hfB] at HB
        go_wp2_with fail
        go_ret
        exact ⟨ret_bool HB.out.symm, hb⟩
      · have HT := Lib.hid (HS.out k hk3.out hk4.out hkn)
        go_wp2_with fail
        go_round
        case rel => exact ⟨k + f.un, by go_num, by omega, by omega, HT.out.1, HT.out.2⟩
        case measure => simp [intOf]; omega
    · have HB := Lib.hid (HNo.out k (by omega) hk4.out)
      go_wp2_with fail
      go_ret
      exact ⟨ret_bool HB.out.symm, hb⟩


end Go.Proofs.Ytcbheefmggajcaa

