/- Layer 14: slices.insertionSortOrdered, pdqsortOrdered up to 12 elements and Sort, of uint32. -/
/- Layer 14: slices.Sorted of the keys of an own set of at most 12 offsets. -/
/- Layer 14: the closure of gapsAfter (fold). -/
import Derived.Test.YtabljmiiekpgiaaGreatDoorQSKE
import Derived.Sort.Row
import Derived.Sort.LotA
import Derived.CellFam
import Derived.Deep.Draws
import Derived.Deep.QuietTactic
import Derived.BigQuiet
import Derived.Test.YtabljmiiekpgiaaGreatDoorQDataY







namespace Go.Proofs.YtabljmiiekpgiaaGreatDoor
open Go.RowKit Go.Sort

set_option linter.unusedSimpArgs false
abbrev encW (x : Int) : Value := .int .u32 x
section
variable {α : Type} [Inhabited α] (lt : α → α → Bool)
theorem inner_go (a j : Nat) (d : Array α) (hj : a < j) (hl : lt d[j]! d[j - 1]! = true) : insInner lt a j d = insInner lt a (j - 1) (swp d j (j - 1)) := by
  cases j with
  | zero => omega
  | succ k =>
    conv => lhs; rw [insInner]
    simp only [Nat.add_sub_cancel] at hl ⊢
    rw [if_pos (by simp [hl]; omega)]
theorem inner_stop (a j : Nat) (d : Array α) (h : j ≤ a ∨ lt d[j]! d[j - 1]! = false) : insInner lt a j d = d := by
  cases j with
  | zero => rw [insInner]
  | succ k =>
    rw [insInner, if_neg]
    simp only [Nat.add_sub_cancel] at h
    intro hc
    rw [Bool.and_eq_true, decide_eq_true_eq] at hc
    rcases h with h | h
    · omega
    · rw [h] at hc; exact absurd hc.2 (by simp)
theorem outer_go (a b i : Nat) (d : Array α) (h : i < b) : insOuter lt a b i d = insOuter lt a b (i + 1) (insInner lt a i d) := by
  conv => lhs; rw [insOuter]
  rw [if_pos h]
theorem outer_stop (a b i : Nat) (d : Array α) (h : ¬ i < b) : insOuter lt a b i d = d := by
  rw [insOuter, if_neg h]
end
theorem put_drewN (w : World) (m q blk off : Nat) (d : Array Int) : (putRow encW (Sort.ahead w m) blk off d).drewN q = putRow encW (Sort.ahead w (m + q)) blk off d := by
  have h := putRow_ahead encW (Sort.ahead w m) q blk off d
  rw [ahead_ahead] at h
  first
    | exact h.symm
    | exact h
theorem nan32 (x : Int) (w : World) : Calls Tryz.prog 201 #[.int .u32 x] w fun e w' => e = .returned (.bool false) ∧ w' = w := by
  have h : (x != x) = false := by simp
  go_enter Tryz.func201, Tryz.ntmps201
  go_wp2_with fail
  go_ret
  exact ⟨rfl, rfl⟩
theorem less32 (x y : Int) (w : World) : Calls Tryz.prog 186 #[.int .u32 x, .int .u32 y] w fun e w' => e = .returned (.bool (ltInt x y)) ∧ w' = w := by
  go_enter Tryz.func186, Tryz.ntmps186
  go_wp2_with fail
  refine (nan32 _ _).mono ?_
  rintro e w1 ⟨rfl, rfl⟩
  go_wp2_with fail
  go_ret
  exact ⟨rfl, rfl⟩

set_option maxRecDepth 100000 in
set_option maxHeartbeats 4000000 in
theorem ins32 (blk off cap a b : Nat) (d : Array Int) (w : World) (hH : Holds encW w blk off d) (hab : a ≤ b) (hb : b ≤ d.size) (hsz : d.size < 4611686018427387904) :
    Calls Tryz.prog 180 #[.slice (some ⟨blk, off, none⟩) d.size cap, .int .i64 a, .int .i64 b] w fun e w' => e = .returned (.tuple #[]) ∧ ∃ n, w' = putRow encW (Sort.ahead w n) blk off (insertionSort ltInt d a b) := by
  go_enter Tryz.func180, Tryz.ntmps180
  go_wp2
  go_loopw [6] (fun vi wr => ∃ (i n : Nat) (dk : Array Int), vi = .int .i64 (i : Int) ∧ a < i ∧ i ≤ b + 1 ∧ dk.size = d.size ∧ wr = putRow encW (Sort.ahead w n) blk off dk ∧ Hid (insOuter ltInt a b i dk = insOuter ltInt a b (a + 1) d)) (fun vi _ => b + 1 - (intOf vi).toNat)
  case atStart => exact ⟨a + 1, 0, d, by go_num, by omega, by omega, rfl, (putRow_self _ _ _ _ _ hH).symm, rfl⟩
  case round =>
    obtain ⟨i, n, dk, rfl, hai, hib, hsk, hwr, HO⟩ := hrel
    by_cases hlt : i < b
    · have hi1 : (i : Int) < (b : Int) := by omega
      go_wp2
      go_loopw [7] (fun vj wr2 => ∃ (j m : Nat) (dj : Array Int), vj = .int .i64 (j : Int) ∧ a ≤ j ∧ j ≤ i ∧ dj.size = d.size ∧ wr2 = putRow encW (Sort.ahead w m) blk off dj ∧ Hid (insInner ltInt a j dj = insInner ltInt a i dk)) (fun vj _ => (intOf vj).toNat)
      case atStart => exact ⟨i, n, dk, rfl, by omega, Nat.le_refl _, hsk, rfl, rfl⟩
      case round =>
        obtain ⟨j, m, dj, rfl, haj, hji, hsj, hw2, HI⟩ := hrel
        obtain ⟨G, hG⟩ : ∃ G : Nat → Int, ∀ t, G t = dj[t]! := ⟨fun t => dj[t]!, fun _ => rfl⟩
        have hcw : ∀ t, t < d.size → wr.cell? ⟨blk, off + t, none⟩ = some (.int .u32 (G t)) := fun t ht => by
          rw [hw2, hG]; exact cell?_putRow encW _ _ _ d dj (holds_ahead _ _ _ _ _ _ hH) hsj t (by omega)
        have hfw : ∀ t, t < d.size → wr.frozen? ⟨blk, off + t, none⟩ = false := fun t ht => by
          rw [hw2, frozen?_putRow]; exact ((holds_ahead _ _ m _ _ _ hH) t ht).2
        have HW := Lib.hid hw2
        have HG := Lib.hid hG
        clear hw2 hG hH
        have OUT : Hid ((j ≤ a ∨ ltInt dj[j]! dj[j - 1]! = false) → ∀ q, ∃ (i' n' : Nat) (dk' : Array Int), Value.int .i64 ((i : Int) + 1) = .int .i64 (i' : Int) ∧ a < i' ∧ i' ≤ b + 1 ∧ dk'.size = d.size ∧
            wr.drewN q = putRow encW (Sort.ahead w n') blk off dk' ∧ Hid (insOuter ltInt a b i' dk' = insOuter ltInt a b (a + 1) d)) := Lib.hid (fun hs q =>
          ⟨i + 1, m + q, dj, by go_num, by omega, by omega, hsj, by rw [HW.out]; exact put_drewN _ _ _ _ _ _,
            Lib.hid (by rw [← HO.out, outer_go _ _ _ _ _ hlt, ← HI.out, inner_stop _ _ _ _ hs])⟩)
        by_cases hja : a < j
        · have hj1 : (a : Int) < (j : Int) := by omega
          go_wp2
          go_quiet (first | (go_at_call 186; refine Calls.quiet_of_same (less32 _ _ _)))
          cases hlv : ltInt (G j) (G (j - 1)) with
          | true =>
            go_wp2
            go_region
            all_goals go_wp2
            go_roundw
            case rel =>
              refine ⟨j - 1, m + (nq + 1), swp dj j (j - 1), by congr 1; omega, by omega, by omega, by rw [size_swp]; exact hsj, ?_, Lib.hid ?_⟩
              · rw [HW.out, HG.out, HG.out, put_drewN]
                exact putRow_swp encW _ blk off dj j (j - 1) (by omega) (by omega)
              · rw [← HI.out, inner_go ltInt a j dj hja (by rw [← HG.out, ← HG.out]; exact hlv)]
            case measure => simp [intOf]; omega
          | false =>
            go_wp2
            go_roundw
            case rel => exact OUT.out (.inr (by rw [← HG.out, ← HG.out]; exact hlv)) nq
            case measure => simp [intOf]; omega
        · have hj1 : ¬ (a : Int) < (j : Int) := by omega
          go_wp2
          go_quiet (first | (go_at_call 186; refine Calls.quiet_of_same (less32 _ _ _)))
          go_wp2
          go_roundw
          case rel => exact OUT.out (.inl (by omega)) nq
          case measure => simp [intOf]; omega
    · have hi1 : ¬ (i : Int) < (b : Int) := by omega
      go_wp2
      go_end0
      exact ⟨rfl, n, by unfold insertionSort; rw [← HO.out, outer_stop _ _ _ _ _ hlt]⟩

set_option maxRecDepth 100000 in
theorem pdq12 (blk off cap : Nat) (d : Array Int) (lim : Int) (w : World) (hH : Holds encW w blk off d) (hd : d.size ≤ 12) :
    Calls Tryz.prog 158 #[.slice (some ⟨blk, off, none⟩) d.size cap, .int .i64 0, .int .i64 (d.size : Int), .int .i64 lim] w fun e w' => e = .returned (.tuple #[]) ∧ ∃ n, w' = putRow encW (Sort.ahead w n) blk off (insertionSort ltInt d 0 d.size) := by
  have hI := ins32 blk off cap 0 d.size d w hH (by omega) (Nat.le_refl _) (by omega)
  have h12 : (d.size : Int) ≤ 12 := by omega
  generalize hk : d.size = k at *
  have HK := Lib.hid hk
  clear hk
  go_enter Tryz.func158, Tryz.ntmps158
  go_wp2_with fail
  go_loopw [1, 2, 3, 8, 9] (fun a b l x y wr => a = .int .i64 0 ∧ b = .int .i64 (k : Int) ∧ l = .int .i64 lim ∧ x = .bool true ∧ y = .bool true ∧ wr = w) (fun _ _ _ _ _ _ => 0)
  case atStart => exact ⟨rfl, rfl, rfl, rfl, rfl, rfl⟩
  case round =>
    obtain ⟨rfl, rfl, rfl, rfl, rfl, rfl⟩ := hrel
    go_wp2_with fail
    refine hI.mono ?_
    rintro e w1 ⟨rfl, n, rfl⟩
    go_wp2_with fail
    (try simp only [Exit.inBlock, Exit.then])
    refine bodyPost_ret (results_none rfl _ _ _) rfl ?_
    exact ⟨rfl, n, rfl⟩
set_option maxRecDepth 100000 in
theorem l64_0 (w : World) : Calls Tryz.prog 168 #[.int .u64 0] w fun e w' => e = .returned (.int .i64 0) ∧ w' = w := by
  go_enter Tryz.func168, Tryz.ntmps168
  go_wp2_with fail
  go_ret
  exact ⟨by kernel_rfl, rfl⟩
set_option maxRecDepth 100000 in
theorem l64_1 (w : World) : Calls Tryz.prog 168 #[.int .u64 1] w fun e w' => e = .returned (.int .i64 1) ∧ w' = w := by
  go_enter Tryz.func168, Tryz.ntmps168
  go_wp2_with fail
  go_ret
  exact ⟨by kernel_rfl, rfl⟩
set_option maxRecDepth 100000 in
theorem l64_2 (w : World) : Calls Tryz.prog 168 #[.int .u64 2] w fun e w' => e = .returned (.int .i64 2) ∧ w' = w := by
  go_enter Tryz.func168, Tryz.ntmps168
  go_wp2_with fail
  go_ret
  exact ⟨by kernel_rfl, rfl⟩
set_option maxRecDepth 100000 in
theorem l64_3 (w : World) : Calls Tryz.prog 168 #[.int .u64 3] w fun e w' => e = .returned (.int .i64 2) ∧ w' = w := by
  go_enter Tryz.func168, Tryz.ntmps168
  go_wp2_with fail
  go_ret
  exact ⟨by kernel_rfl, rfl⟩
set_option maxRecDepth 100000 in
theorem l64_4 (w : World) : Calls Tryz.prog 168 #[.int .u64 4] w fun e w' => e = .returned (.int .i64 3) ∧ w' = w := by
  go_enter Tryz.func168, Tryz.ntmps168
  go_wp2_with fail
  go_ret
  exact ⟨by kernel_rfl, rfl⟩
set_option maxRecDepth 100000 in
theorem l64_5 (w : World) : Calls Tryz.prog 168 #[.int .u64 5] w fun e w' => e = .returned (.int .i64 3) ∧ w' = w := by
  go_enter Tryz.func168, Tryz.ntmps168
  go_wp2_with fail
  go_ret
  exact ⟨by kernel_rfl, rfl⟩
set_option maxRecDepth 100000 in
theorem l64_6 (w : World) : Calls Tryz.prog 168 #[.int .u64 6] w fun e w' => e = .returned (.int .i64 3) ∧ w' = w := by
  go_enter Tryz.func168, Tryz.ntmps168
  go_wp2_with fail
  go_ret
  exact ⟨by kernel_rfl, rfl⟩
set_option maxRecDepth 100000 in
theorem l64_7 (w : World) : Calls Tryz.prog 168 #[.int .u64 7] w fun e w' => e = .returned (.int .i64 3) ∧ w' = w := by
  go_enter Tryz.func168, Tryz.ntmps168
  go_wp2_with fail
  go_ret
  exact ⟨by kernel_rfl, rfl⟩
set_option maxRecDepth 100000 in
theorem l64_8 (w : World) : Calls Tryz.prog 168 #[.int .u64 8] w fun e w' => e = .returned (.int .i64 4) ∧ w' = w := by
  go_enter Tryz.func168, Tryz.ntmps168
  go_wp2_with fail
  go_ret
  exact ⟨by kernel_rfl, rfl⟩
set_option maxRecDepth 100000 in
theorem l64_9 (w : World) : Calls Tryz.prog 168 #[.int .u64 9] w fun e w' => e = .returned (.int .i64 4) ∧ w' = w := by
  go_enter Tryz.func168, Tryz.ntmps168
  go_wp2_with fail
  go_ret
  exact ⟨by kernel_rfl, rfl⟩
set_option maxRecDepth 100000 in
theorem l64_10 (w : World) : Calls Tryz.prog 168 #[.int .u64 10] w fun e w' => e = .returned (.int .i64 4) ∧ w' = w := by
  go_enter Tryz.func168, Tryz.ntmps168
  go_wp2_with fail
  go_ret
  exact ⟨by kernel_rfl, rfl⟩
set_option maxRecDepth 100000 in
theorem l64_11 (w : World) : Calls Tryz.prog 168 #[.int .u64 11] w fun e w' => e = .returned (.int .i64 4) ∧ w' = w := by
  go_enter Tryz.func168, Tryz.ntmps168
  go_wp2_with fail
  go_ret
  exact ⟨by kernel_rfl, rfl⟩
set_option maxRecDepth 100000 in
theorem l64_12 (w : World) : Calls Tryz.prog 168 #[.int .u64 12] w fun e w' => e = .returned (.int .i64 4) ∧ w' = w := by
  go_enter Tryz.func168, Tryz.ntmps168
  go_wp2_with fail
  go_ret
  exact ⟨by kernel_rfl, rfl⟩
theorem blen32 (n k : Int) (h : ∀ w, Calls Tryz.prog 168 #[.int .u64 n] w fun e w' => e = .returned (.int .i64 k) ∧ w' = w) (_hn : 0 ≤ n ∧ n < 100) (w : World) :
    Calls Tryz.prog 142 #[.int .u64 n] w fun e w' => e = .returned (.int .i64 k) ∧ w' = w := by
  go_enter Tryz.func142, Tryz.ntmps142
  go_wp2_with fail
  refine (h _).mono ?_
  rintro e w1 ⟨rfl, rfl⟩
  go_wp2_with fail
  go_ret
  exact ⟨rfl, rfl⟩
theorem blen12 : ∀ n : Nat, n ≤ 12 → ∃ k : Int, ∀ w, Calls Tryz.prog 142 #[.int .u64 (n : Int)] w fun e w' => e = .returned (.int .i64 k) ∧ w' = w
  | 0, _ => ⟨_, fun w => blen32 0 _ l64_0 (by decide) w⟩
  | 1, _ => ⟨_, fun w => blen32 1 _ l64_1 (by decide) w⟩
  | 2, _ => ⟨_, fun w => blen32 2 _ l64_2 (by decide) w⟩
  | 3, _ => ⟨_, fun w => blen32 3 _ l64_3 (by decide) w⟩
  | 4, _ => ⟨_, fun w => blen32 4 _ l64_4 (by decide) w⟩
  | 5, _ => ⟨_, fun w => blen32 5 _ l64_5 (by decide) w⟩
  | 6, _ => ⟨_, fun w => blen32 6 _ l64_6 (by decide) w⟩
  | 7, _ => ⟨_, fun w => blen32 7 _ l64_7 (by decide) w⟩
  | 8, _ => ⟨_, fun w => blen32 8 _ l64_8 (by decide) w⟩
  | 9, _ => ⟨_, fun w => blen32 9 _ l64_9 (by decide) w⟩
  | 10, _ => ⟨_, fun w => blen32 10 _ l64_10 (by decide) w⟩
  | 11, _ => ⟨_, fun w => blen32 11 _ l64_11 (by decide) w⟩
  | 12, _ => ⟨_, fun w => blen32 12 _ l64_12 (by decide) w⟩
  | n + 13, h => by omega
theorem sort12 (blk off cap : Nat) (d : Array Int) (w : World) (hH : Holds encW w blk off d) (hd : d.size ≤ 12) :
    Calls Tryz.prog 137 #[.slice (some ⟨blk, off, none⟩) d.size cap] w fun e w' => e = .returned (.tuple #[]) ∧ ∃ n, w' = putRow encW (Sort.ahead w n) blk off (insertionSort ltInt d 0 d.size) := by
  obtain ⟨k, hL⟩ := blen12 d.size hd
  have hP := pdq12 blk off cap d k w hH hd
  have h12 : (d.size : Int) ≤ 12 := by omega
  generalize insertionSort ltInt d 0 d.size = r at *
  generalize hs : d.size = m at *
  clear hs hH
  go_enter Tryz.func137, Tryz.ntmps137
  go_wp2_with fail
  refine (hL _).mono ?_
  rintro e w1 ⟨rfl, rfl⟩
  go_wp2_with fail
  refine hP.mono ?_
  rintro e w2 ⟨rfl, b2⟩
  go_wp2_with fail
  go_end0
  exact ⟨rfl, b2⟩
end Go.Proofs.YtabljmiiekpgiaaGreatDoor



namespace Go.Proofs.YtabljmiiekpgiaaGreatDoor
open Go.RowKit Go.Sort Go.Maps

set_option linter.unusedSimpArgs false
/-- ascending -/
def srt (l : List UInt32) : List UInt32 := l.mergeSort (fun x y => decide (x ≤ y))
theorem le32_trans (a b c : UInt32) (h1 : decide (a ≤ b) = true) (h2 : decide (b ≤ c) = true) : decide (a ≤ c) = true := by
  simp only [decide_eq_true_eq, UInt32.le_iff_toNat_le] at *
  omega
theorem le32_total (a b : UInt32) : (decide (a ≤ b) || decide (b ≤ a)) = true := by
  simp only [Bool.or_eq_true, decide_eq_true_eq, UInt32.le_iff_toNat_le]
  omega
theorem srt_perm (l : List UInt32) : (srt l).Perm l := List.mergeSort_perm _ _
theorem srt_len (l : List UInt32) : (srt l).length = l.length := (srt_perm l).length_eq
theorem srt_sorted (l : List UInt32) : (srt l).Pairwise (fun x y => decide (x ≤ y) = true) := List.pairwise_mergeSort le32_trans le32_total l
theorem srt_of_perm {l l' : List UInt32} (h : l.Perm l') : srt l = srt l' := by
  refine List.Perm.eq_of_pairwise (le := fun a b => decide (a ≤ b) = true) (fun a b _ _ h1 h2 => ?_) (srt_sorted l) (srt_sorted l') (((srt_perm l).trans h).trans (srt_perm l').symm)
  simp only [decide_eq_true_eq, UInt32.le_iff_toNat_le] at h1 h2
  exact UInt32.toNat_inj.1 (by omega)
def zOf (x : UInt32) : Int := (x.toNat : Int)
theorem uv_zOf (l : List UInt32) : l.map uv = (l.map zOf).map encW := by rw [List.map_map]; rfl
theorem ins_srt (l : List UInt32) : insertionSort ltInt (l.map zOf).toArray 0 (l.map zOf).toArray.size = ((srt l).map zOf).toArray := by
  obtain ⟨hP, hS⟩ := insertionSort_holds swo_ltInt (l.map zOf).toArray 0 (l.map zOf).toArray.size (Nat.zero_le _) (Nat.le_refl _)
  have h := sorted_unique_holds swo_ltInt (fun x y h1 h2 => by simp only [ltInt, decide_eq_false_iff_not] at h1 h2; omega) (l.map zOf).toArray _ hP hS
  have e : (insertionSort ltInt (l.map zOf).toArray 0 (l.map zOf).toArray.size).toList = (srt l).map zOf := by
    rw [h]
    unfold srt
    rw [List.map_mergeSort (s := fun x y => !ltInt y x) (f := zOf)]
    intro a _ b _
    unfold ltInt zOf
    by_cases h : a.toNat ≤ b.toNat
    · rw [decide_eq_true (UInt32.le_iff_toNat_le.2 h), decide_eq_false (by omega)]
      rfl
    · rw [decide_eq_false (fun h' => h (UInt32.le_iff_toNat_le.1 h')), decide_eq_true (by omega)]
      rfl
  rw [← e]

theorem holds_own {w : World} {base g n c : Nat} {l : List UInt32} (h : w.ownsRow base 22 1 (.slice (some ⟨g, 0, none⟩) n c) n (l.map uv)) : Holds encW w g 0 (l.map zOf).toArray := by
  have hn : (l.map uv).length = n := (own_cap h).1
  rw [List.length_map] at hn
  intro j hj
  have hj' : j < n := by simpa [hn] using hj
  obtain ⟨g', x, e, hx, hc, hf, _⟩ := own_at h hj'
  cases e
  have hx' := hx.out
  rw [uv_zOf, List.getElem?_map] at hx'
  obtain ⟨z, hz, rfl⟩ := Option.map_eq_some_iff.1 hx'
  rw [Nat.zero_add]
  refine ⟨?_, hf⟩
  rw [hc]
  have : (l.map zOf).toArray[j]! = z := by
    rw [getElem!_def, List.getElem?_toArray, hz]
  rw [this]
theorem own_sorted {w : World} {base g n c q : Nat} {l ts : List UInt32} (hl : ts.length = l.length) (h : w.ownsRow base 22 1 (.slice (some ⟨g, 0, none⟩) n c) n (l.map uv)) :
    (putRow encW (Sort.ahead w q) g 0 (ts.map zOf).toArray).ownsRow base 22 1 (.slice (some ⟨g, 0, none⟩) n c) n (ts.map uv) ∧ w.grownBy (putRow encW (Sort.ahead w q) g 0 (ts.map zOf).toArray) (some g) := by
  have hn : (l.map uv).length = n := (own_cap h).1
  rw [List.length_map] at hn
  have hgr : w.grownBy (putRow encW (Sort.ahead w q) g 0 (ts.map zOf).toArray) (some g) := by
    refine ⟨rfl, rfl, rfl, by simp [putRow, mapBlock, Sort.ahead], fun k hk hne => ?_⟩
    have : g ≠ k := fun e => hne (by rw [e])
    simp [putRow, mapBlock, Sort.ahead, Array.getElem?_modify, this]
  refine ⟨⟨by simp [hl, hn], ?_⟩, hgr⟩
  rcases h.2 with ⟨e, _⟩ | ⟨g', cap, cur, e, hbase, hb, h1, h2, h3, h4⟩
  · cases e
  · cases e
    refine .inr ⟨g, c, putCells encW 0 (ts.map zOf).toArray cur, rfl, hbase, ?_, h1, h2, by simp [putCells, h3], ?_⟩
    · simp [putRow, mapBlock, Sort.ahead, Array.getElem?_modify, hb, onCells]
    · have hcs : n ≤ cur.size := by omega
      apply List.ext_getElem?
      intro j
      by_cases hj : j < n
      · rw [List.getElem?_take_of_lt (by omega), Array.getElem?_toList]
        have hjt : j < ts.length := by omega
        simp [putCells, hjt, show j < cur.size by omega, zOf]
      · rw [List.getElem?_take_eq_none (by omega), List.getElem?_eq_none (by simp; omega)]

theorem ins0 (V : Value) (w : World) : Calls Tryz.prog 180 #[V, .int .i64 0, .int .i64 0] w fun e w' => e = .returned (.tuple #[]) ∧ w' = w := by
  go_enter Tryz.func180, Tryz.ntmps180
  go_wp2_with fail
  go_loopw [6] (fun vi wr => vi = .int .i64 1 ∧ wr = w) (fun _ _ => 0)
  case atStart => exact ⟨rfl, rfl⟩
  case round =>
    obtain ⟨rfl, rfl⟩ := hrel
    go_wp2_with fail
    go_end0
    exact ⟨rfl, rfl⟩
set_option maxRecDepth 100000 in
theorem pdq0 (V : Value) (lim : Int) (w : World) : Calls Tryz.prog 158 #[V, .int .i64 0, .int .i64 0, .int .i64 lim] w fun e w' => e = .returned (.tuple #[]) ∧ w' = w := by
  have hI := fun w => ins0 V w
  go_enter Tryz.func158, Tryz.ntmps158
  go_wp2_with fail
  go_loopw [1, 2, 3, 8, 9] (fun a b l x y wr => a = .int .i64 0 ∧ b = .int .i64 0 ∧ l = .int .i64 lim ∧ x = .bool true ∧ y = .bool true ∧ wr = w) (fun _ _ _ _ _ _ => 0)
  case atStart => exact ⟨rfl, rfl, rfl, rfl, rfl, rfl⟩
  case round =>
    obtain ⟨rfl, rfl, rfl, rfl, rfl, rfl⟩ := hrel
    go_wp2_with fail
    refine (hI _).mono ?_
    rintro e w1 ⟨rfl, rfl⟩
    go_wp2_with fail
    (try simp only [Exit.inBlock, Exit.then])
    refine bodyPost_ret (results_none rfl _ _ _) rfl ?_
    exact ⟨rfl, rfl⟩
theorem sort0 (A : Option Addr) (c : Nat) (w : World) : Calls Tryz.prog 137 #[.slice A 0 c] w fun e w' => e = .returned (.tuple #[]) ∧ w' = w := by
  obtain ⟨k, hL⟩ := blen12 0 (by omega)
  have hP := pdq0 (.slice A 0 c) k w
  have hL' : ∀ w, Calls Tryz.prog 142 #[.int .u64 0] w fun e w' => e = .returned (.int .i64 k) ∧ w' = w := hL
  go_enter Tryz.func137, Tryz.ntmps137
  go_wp2_with fail
  refine (hL' _).mono ?_
  rintro e w1 ⟨rfl, rfl⟩
  go_wp2_with fail
  refine hP.mono ?_
  rintro e w2 ⟨rfl, rfl⟩
  go_wp2_with fail
  go_end0
  exact ⟨rfl, rfl⟩
/-- slices.Sort of an own row -/
theorem sort_own (base n : Nat) (A : Option Addr) (c : Nat) (l : List UInt32) (w : World) (hn : n ≤ 12) (h : w.ownsRow base 22 1 (.slice A n c) n (l.map uv)) :
    Calls Tryz.prog 137 #[.slice A n c] w fun e w' => e = .returned (.tuple #[]) ∧ w'.ownsRow base 22 1 (.slice A n c) n ((srt l).map uv) ∧ ∀ (B : Nat) (w0 : World), B ≤ base → B ≤ w.heap.size → Below B w0 w → Below B w0 w' := by
  have hln : (l.map uv).length = n := (own_cap h).1
  rw [List.length_map] at hln
  rcases h.2 with ⟨e, h0⟩ | ⟨g, cap, cur, e, hbase, hb, h1, h2, h3, h4⟩
  · obtain rfl : n = 0 := h0
    obtain rfl : l = [] := List.length_eq_zero_iff.1 hln
    refine (sort0 A c w).mono ?_
    rintro e w' ⟨rfl, rfl⟩
    have e0 : srt [] = [] := by simp [srt]
    rw [e0]
    exact ⟨rfl, h, fun _ _ _ _ hB => hB⟩
  · cases e
    have hs := sort12 g 0 c (l.map zOf).toArray w (holds_own h) (by simp; omega)
    rw [ins_srt] at hs
    have hsz : (l.map zOf).toArray.size = n := by simp [hln]
    rw [hsz] at hs
    refine hs.mono ?_
    rintro e w' ⟨rfl, q, rfl⟩
    obtain ⟨o1, o2⟩ := own_sorted (q := q) (srt_len l) h
    exact ⟨rfl, o1, fun B w0 hB hBw hbel => hbel.grown o2 hBw (fun k e => by cases e; omega)⟩

theorem sorted32 (Bm b nn : Nat) (acc : List UInt32) (hnd : acc.Nodup) (hl : acc.length ≤ 12) (w : World) (hBm : Bm < w.heap.size)
    (hm : w.cell? ⟨Bm, 0, none⟩ = some (.map (some b))) (hown : w.ownsMap Tryz.prog 22 (plainElem (H := Unit) Tryz.prog 4) b nn (setD acc)) :
    Calls Tryz.prog 112 #[.func (.func 138) #[] #[.pointer (some ⟨Bm, 0, none⟩)]] w fun e w' =>
      ∃ (A : Option Addr) (c : Nat), e = .returned (.slice A acc.length c) ∧ w'.ownsRow w.heap.size 22 1 (.slice A acc.length c) acc.length ((srt acc).map uv) ∧ Below w.heap.size w w' := by
  have hC := callsIn_wide.1 (coll_in Bm b nn acc hnd (by omega) w hBm hm hown)
  clear hm hown
  go_enter Tryz.func112, Tryz.ntmps112
  go_wp2_with fail
  refine hC.mono ?_
  rintro e w1 ⟨A, c, ss, rfl, hp, h1, b1⟩
  have hlen : ss.length = acc.length := hp.length_eq
  rw [hlen] at h1 ⊢
  have hS := sort_own w.heap.size acc.length A c ss w1 hl h1
  have hb1 := b1.size
  rw [srt_of_perm hp] at hS
  clear h1
  go_wp2_with fail
  refine hS.mono ?_
  rintro e w2 ⟨rfl, h2, b2⟩
  have b3 := b2 w.heap.size w (Nat.le_refl _) hb1 b1
  clear b2
  go_wp2_with fail
  go_ret
  exact ⟨A, c, rfl, h2, b3⟩
end Go.Proofs.YtabljmiiekpgiaaGreatDoor




namespace Go.Proofs.YtabljmiiekpgiaaGreatDoor
open Go.RowKit

set_option linter.unusedSimpArgs false
/-- one more offset -/
def gfold (gs : List Gp) (o : UInt16) : List Gp :=
  match gs.getLast? with
  | none => gs ++ [⟨o, o⟩]
  | some g => if g.t + 1 = o then gs.dropLast ++ [⟨g.f, o⟩] else gs ++ [⟨o, o⟩]
theorem gfold_nil (o : UInt16) : gfold [] o = [⟨o, o⟩] := rfl
theorem gfold_on (pre : List Gp) (g : Gp) (o : UInt16) (h : g.t + 1 = o) : gfold (pre ++ [g]) o = pre ++ [⟨g.f, o⟩] := by simp [gfold, h]
theorem gfold_new (pre : List Gp) (g : Gp) (o : UInt16) (h : g.t + 1 ≠ o) : gfold (pre ++ [g]) o = pre ++ [g] ++ [⟨o, o⟩] := by simp [gfold, h]
theorem gfold_len (gs : List Gp) (o : UInt16) : (gfold gs o).length ≤ gs.length + 1 := by
  rcases List.eq_nil_or_concat gs with rfl | ⟨pre, g, rfl⟩
  · simp [gfold]
  · by_cases h : g.t + 1 = o
    · rw [List.concat_eq_append, gfold_on _ _ _ h]; simp
    · rw [List.concat_eq_append, gfold_new _ _ _ h]; simp
theorem own_set2 {w : World} {base g n c i : Nat} {t : TypeId} {xs : List Value} (h : w.ownsRow base t 2 (.slice (some ⟨g, 0, none⟩) n c) n xs) (u : Value) (hn : 0 < n) :
    (w.setCell ⟨g, i, none⟩ u).ownsRow base t 2 (.slice (some ⟨g, 0, none⟩) n c) n (xs.set i u) := by
  refine ⟨by rw [List.length_set]; exact h.1, ?_⟩
  rcases h.2 with ⟨_, h2⟩ | ⟨g', cap, cur, h1, h2, h3, h4, h5, h6, h7⟩
  · omega
  · cases h1
    have hw : Whole w g t cur := h3
    exact .inr ⟨g, c, _, rfl, h2, hw.set_ i u, h4, h5, by simpa using h6, by rw [Array.toList_setIfInBounds, List.take_set, h7]⟩
theorem own_at2 {w : World} {base n c : Nat} {A : Option Addr} {t : TypeId} {xs : List Value} (h : w.ownsRow base t 2 (.slice A n c) n xs) (hn : 0 < n) : ∃ g cur, A = some ⟨g, 0, none⟩ ∧ base ≤ g ∧ Whole w g t cur ∧ n ≤ c ∧ c ≤ maxLen ∧ ∀ (i : Nat) (x : Value), xs[i]? = some x → cur[i]? = some x := by
  rcases h.2 with ⟨_, h2⟩ | ⟨g, cap, cur, h1, h2, h3, h4, h5, h6, h7⟩
  · omega
  · cases h1
    refine ⟨g, cur, rfl, h2, h3, h4, h5, fun i x hx => ?_⟩
    rw [← h7] at hx
    have hi : i < n * 2 := by
      have := (List.getElem?_eq_some_iff.1 hx).1
      simp at this
      omega
    rw [List.getElem?_take_of_lt hi, Array.getElem?_toList] at hx
    exact hx
theorem gapinfo : (Tryz.prog.info? 86).map (fun i => (i.zero, i.size, i.bytes)) = some (some (.agg #[.int .u16 0, .int .u16 0]), 2, 4) := by kernel_rfl
theorem row_ne2 {w : World} {base base' s s' n n' t e : Nat} {v v' : Value} {xs xs' : List Value} (hte : t ≠ e) (h : w.ownsRow base t s v n xs) (h' : w.ownsRow base' e s' v' n' xs') : v.ownBlock = none ∨ v.ownBlock ≠ v'.ownBlock := by
  rcases h.2 with ⟨rfl, _⟩ | ⟨g, cap, cur, rfl, _, hg, _⟩
  · exact .inl rfl
  · refine .inr fun e' => ?_
    rcases h'.2 with ⟨rfl, _⟩ | ⟨g', cap', cur', rfl, _, hg', _⟩
    · simp [Value.ownBlock] at e'
    · simp only [Value.ownBlock, Option.some.injEq] at e'
      subst e'
      rw [hg] at hg'
      exact hte (Obj.cells.inj (Option.some.inj hg')).2.1
/-- rows of numbers stay -/
def Rows32 (w w' : World) : Prop := ∀ (base n : Nat) (v : Value) (xs : List Value), w.ownsRow base 22 1 v n xs → w'.ownsRow base 22 1 v n xs
theorem Rows32.trans {a b c : World} (h : Rows32 a b) (k : Rows32 b c) : Rows32 a c := fun base n v xs hr => k base n v xs (h base n v xs hr)
theorem whole_rows32 {w : World} {g : Nat} {t : TypeId} {cs : Array Value} (h : Whole w g t cs) (ht : t ≠ 22) (i : Nat) (u : Value) : Rows32 w (w.setCell ⟨g, i, none⟩ u) := fun base n v xs hr => by
  refine hr.kept (grownBy_setCell1 w g i u) ?_
  rcases hr.2 with ⟨rfl, _⟩ | ⟨g', cap', cur', rfl, _, hg', _⟩
  · exact .inl rfl
  · refine .inr fun e' => ?_
    simp only [Value.ownBlock, Option.some.injEq] at e'
    subst e'
    unfold Whole at h
    rw [h] at hg'
    exact ht (Obj.cells.inj (Option.some.inj hg')).2.1

theorem lies_gap (w : World) (o : UInt16) : Lies (w.alloc (.cells #[hv o, hv o] 86)) (w.heap.size + 1) (some ⟨w.heap.size, 0, none⟩) [hv o, hv o] := Lies.newN w [hv o, hv o] 86
theorem add16 (a : UInt16) : ((a.toNat : Int) + 1) % 65536 = (((a + 1).toNat : Nat) : Int) := by
  have h1 := a.toNat_lt
  rw [UInt16.toNat_add]
  have : (1 : UInt16).toNat = 1 := rfl
  rw [this]
  omega
theorem wrap16j (x : Int) : IntKind.u16.wrap x = x % 65536 := by
  unfold IntKind.wrap IntKind.bits
  simp [IntKind.signed]
theorem own_slice2 {w : World} {base s n : Nat} {t : TypeId} {v : Value} {xs : List Value} (h : w.ownsRow base t s v n xs) : ∃ A c, v = .slice A n c := by
  rcases h.2 with ⟨rfl, rfl⟩ | ⟨g, cap, cur, rfl, _⟩
  · exact ⟨none, 0, rfl⟩
  · exact ⟨_, _, rfl⟩
theorem rows_app {w w9 : World} {base n Bg : Nat} {v : Value} {xs : List Value} {o : Obj} {x : Value} (hr : w.ownsRow base 86 2 v n xs) (hW : Boxed w9 Bg 36 x) (hg : (w.alloc o).grownBy w9 v.ownBlock) (u : Value) : Rows32 w (w9.setCell ⟨Bg, 0, none⟩ u) := by
  refine Rows32.trans (b := w9) (fun b m v' ys h => ?_) (whole_rows32 (cs := #[x]) hW (by decide) 0 u)
  exact (h.alloc o).kept hg (row_ne2 (by decide) (h.alloc o) (hr.alloc o))
set_option maxRecDepth 100000 in
set_option maxHeartbeats 4000000 in
theorem fold_any (o : UInt16) (gs : List Gp) (hl : gs.length ≤ 100000) (A : Option Addr) (c Bg base : Nat) (w : World) (hW : Whole w Bg 36 #[.slice A gs.length c]) (hbg : base ≤ Bg) (hr : w.ownsRow base 86 2 (.slice A gs.length c) gs.length (gpFlat gs)) :
    Calls Tryz.prog 111 #[.int .u16 (o.toNat : Int), .pointer (some ⟨Bg, 0, none⟩)] w fun e w' => e = .returned (.tuple #[]) ∧ ∃ A' c', Whole w' Bg 36 #[.slice A' (gfold gs o).length c'] ∧
      w'.ownsRow base 86 2 (.slice A' (gfold gs o).length c') (gfold gs o).length (gpFlat (gfold gs o)) ∧ Below base w w' ∧ Rows32 w w' := by
  have hBl := hW.lt
  have c0 : w.cell? ⟨Bg, 0, none⟩ = some (.slice A gs.length c) := by rw [hW.cell]; rfl
  have f0 := hW.frozen 0
  rcases List.eq_nil_or_concat gs with rfl | ⟨pre, g, rfl⟩
  · have hr0 := hr
    go_enter Tryz.func111, Tryz.ntmps111
    simp only [List.length_nil] at *
    go_upto_region 1 with fail
    go_upto_region 3 with fail
    have hnew := lies_gap w o
    have hone : ∀ u ∈ [hv o, hv o], u.oneCell' = true := by intro u hu; simp at hu; rw [hu]; rfl
    go_wp2_with (at_builtin; refine wpList_append_wide13 _ rfl (.tmp 24) (.tmp 28) 36 rfl base 86 _ 2 4 Tryz.underlying36 gapinfo rfl (by omega) _ _ _ rfl (hr.alloc _) _ _ 1 1 [hv o, hv o] rfl rfl hnew hone (by omega) (by unfold maxLen; omega) (by simp; omega) ?_; intro v' w9 hown9 hgr9; obtain ⟨A9, c9, rfl⟩ := own_slice2 hown9; obtain ⟨q1, q2, q3, _, q5⟩ := Boxed.appended hW (by decide) hr (by omega) hbg hown9 hgr9; have cq := q1.cell; have fq := q1.frozen; have r9 := rows_app hr q1 hgr9 (.slice A9 1 c9))
    go_end0
    exact ⟨rfl, A9, c9, q2, by rw [gfold_nil]; simpa [gpFlat] using q3, q5, r9⟩
  · rw [List.concat_eq_append] at *
    have hlen : (pre ++ [g]).length = pre.length + 1 := by simp
    rw [hlen] at hl hr hW c0
    obtain ⟨gb, cur, rfl, hgb, hWg, hc1, hc2, hat⟩ := own_at2 (n := pre.length + 1) hr (Nat.succ_pos _)
    have hcg := hat (pre.length * 2 + 1) (hv g.t) (gpFlat_at (gs := pre ++ [g]) (k := pre.length) (g := g) (by simp)).2
    have cg : w.cell? ⟨gb, pre.length * 2 + 1, none⟩ = some (hv g.t) := by rw [hWg.cell]; exact hcg
    have fg := hWg.frozen (pre.length * 2 + 1)
    have i1 : (0 : Int) ≤ (pre.length : Int) := by omega
    have hadd := add16 g.t
    unfold maxLen at hc2
    have hw64 : wrap64 (pre.length : Int) = (pre.length : Int) := IntWalk.wrap64_in _ ⟨by omega, by omega⟩
    by_cases hq : g.t + 1 = o
    · have hG : Hid (gfold (pre ++ [g]) o = pre ++ [⟨g.f, o⟩]) := Lib.hid (gfold_on pre g o hq)
      have hqb : (((g.t.toNat : Int) + 1) % 65536 == (o.toNat : Int)) = true := by rw [hadd, hq]; simp
      have hqw : (IntKind.u16.wrap ((g.t.toNat : Int) + 1) == (o.toNat : Int)) = true := by rw [wrap16j]; exact hqb
      have HR := Lib.hid (own_set2 (i := pre.length * 2 + 1) hr (hv o) (Nat.succ_pos _))
      have hne : gb ≠ Bg := fun e => by
        subst e
        unfold Whole at hWg hW
        rw [hWg] at hW
        exact absurd (Obj.cells.inj (Option.some.inj hW)).2.1 (by decide)
      have HW2 := Lib.hid (hW.far (p := ⟨gb, pre.length * 2 + 1, none⟩) (fun e => hne e.symm) (hv o))
      have HB := Lib.hid ((Below.refl base w).setCell (p := ⟨gb, pre.length * 2 + 1, none⟩) hgb (hv o))
      have H32 := Lib.hid (whole_rows32 hWg (by decide) (pre.length * 2 + 1) (hv o))
      clear hr hW hWg hadd hq hat hcg
      go_enter Tryz.func111, Tryz.ntmps111
      go_upto_region 1 with fail
      go_upto_region 2 with fail
      go_wp2_with fail
      refine bodyPost_ret (results_none rfl _ _ _) rfl ?_
      rw [hG.out]
      have eflat : (gpFlat (pre ++ [g])).set (pre.length * 2 + 1) (hv o) = gpFlat (pre ++ [⟨g.f, o⟩]) := by
        rw [gpFlat_snoc, gpFlat_snoc, List.set_append_right _ _ (by rw [gpFlat_len]; omega), gpFlat_len, show pre.length * 2 + 1 - pre.length * 2 = 1 by omega]
        rfl
      have HR2 := HR.out
      rw [eflat] at HR2
      exact ⟨rfl, some ⟨gb, 0, none⟩, c, by simpa using HW2.out, by simpa using HR2, HB.out, H32.out⟩
    · have hG : Hid (gfold (pre ++ [g]) o = pre ++ [g] ++ [⟨o, o⟩]) := Lib.hid (gfold_new pre g o hq)
      have hqb : (((g.t.toNat : Int) + 1) % 65536 == (o.toNat : Int)) = false := by rw [hadd, beq_eq_false_iff_ne]; exact fun e => hq (UInt16.toNat_inj.1 (by omega))
      have hqw : (IntKind.u16.wrap ((g.t.toNat : Int) + 1) == (o.toNat : Int)) = false := by rw [wrap16j]; exact hqb
      have hnew := lies_gap w o
      have hone : ∀ u ∈ [hv o, hv o], u.oneCell' = true := by intro u hu; simp at hu; rw [hu]; rfl
      clear hat hcg hWg hadd hq
      go_enter Tryz.func111, Tryz.ntmps111
      go_upto_region 1 with fail
      go_upto_region 3 with fail
      go_wp2_with (at_builtin; refine wpList_append_wide13 _ rfl (.tmp 24) (.tmp 28) 36 rfl base 86 _ 2 4 Tryz.underlying36 gapinfo rfl (by omega) _ _ _ rfl (hr.alloc _) _ _ 1 1 [hv o, hv o] rfl rfl hnew hone (by omega) (by unfold maxLen; omega) (by simp; omega) ?_; intro v' w9 hown9 hgr9; obtain ⟨A9, c9, rfl⟩ := own_slice2 hown9; obtain ⟨q1, q2, q3, _, q5⟩ := Boxed.appended hW (by decide) hr (by omega) hbg hown9 hgr9; have cq := q1.cell; have fq := q1.frozen; have r9 := rows_app hr q1 hgr9 (.slice A9 (pre.length + 1 + 1) c9))
      go_end0
      have hlen2 : (pre ++ [g] ++ [(⟨o, o⟩ : Gp)]).length = pre.length + 1 + 1 := by simp
      rw [hG.out, hlen2, gpFlat_snoc (pre ++ [g])]
      exact ⟨rfl, A9, c9, q2, q3, q5, r9⟩
end Go.Proofs.YtabljmiiekpgiaaGreatDoor


