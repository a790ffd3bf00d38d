/- Layer 1, package wire: Numbers and its iterator, for whatever bytes. -/
import Derived.Test.YtemeeeiglifpaaaDoorRange
import Derived.Test.YtemeeeiglifpaaaDoorWireD


namespace Go.Proofs.YtemeeeiglifpaaaDoor
open Go.RowKit Go.Shelf

attribute [local go_sem] Oper.semAt_some

def numAt (k : Nat) (b : List UInt8) (j : Nat) : UInt32 := UInt32.ofNat (numOf ((b.drop (j * k)).take k))
def nums (k : Nat) (b : List UInt8) : List UInt32 := (List.range (b.length / k)).map (numAt k b)
theorem numAt_toNat (k : Nat) (b : List UInt8) (j : Nat) : (numAt k b j).toNat = numOf ((b.drop (j * k)).take k) := by
  unfold numAt
  rw [UInt32.toNat_ofNat']
  exact Nat.mod_eq_of_lt (numOf_lt _)
theorem nums_take (k : Nat) (b : List UInt8) (j : Nat) (hj : j < b.length / k) : (nums k b).take (j + 1) = (nums k b).take j ++ [numAt k b j] :=
  take_some (by simp [nums, hj])
theorem nums_len (k : Nat) (b : List UInt8) : (nums k b).length = b.length / k := by simp [nums]

set_option maxRecDepth 100000 in
set_option maxHeartbeats 1000000 in
theorem numbers1_in (n : Nat) (hn : 1 ≤ n) (l Bb Bk n₀ : Nat) (A : Option Addr) (c k : Nat) (b : List UInt8) (hk : 1 ≤ k) (hk4 : k ≤ 4) (hm : b.length % k = 0) (hs : b.length ≤ 140737488355328) (hbc : b.length ≤ c)
    (J Jx : List UInt32 → World → Prop)
    (hY : ∀ pre x W, J pre W → pre.length < b.length / k → YieldAt Fence.wide (n - 1) Tryd.prog l #[.int .u32 (x : UInt32).toNat] W fun e W' =>
      (e = .returned (.bool true) ∧ J (pre ++ [x]) W' ∧ Kept n₀ (fun i => i = Bb ∨ i = Bk) W W') ∨ (e = .returned (.bool false) ∧ Jx (pre ++ [x]) W'))
    (W : World) (hBb : W.cell? ⟨Bb, 0, none⟩ = some (.slice A b.length c)) (hBk : W.cell? ⟨Bk, 0, none⟩ = some (.int .i64 (k : Int))) (hL : Lies W n₀ A (b.map bv)) (h0 : J [] W) :
    CallsIn Fence.wide n Tryd.prog 59 #[.func (.yield l) #[] #[], .pointer (some ⟨Bb, 0, none⟩), .pointer (some ⟨Bk, 0, none⟩)] W fun e W' => (∃ v, e = .returned v) ∧
      ((∃ ys, ys = nums k b ∧ J ys W') ∨ (∃ pre, pre <+: nums k b ∧ Jx pre W')) := by
  have hdiv : b.length / k * k = b.length := by rw [Nat.mul_comm]; exact Nat.mul_div_cancel' (Nat.dvd_of_mod_eq_zero hm)
  have HD := Lib.hid hdiv
  clear hdiv hm
  refine callsIn_of_wp Tryd.func59 rfl trivial ?_ rfl
  simp only [Tryd.ntmps59, List.size_toArray, List.length_cons, List.length_nil, Nat.reduceAdd, Nat.reduceSub, Array.replicate_succ, Array.replicate_zero, List.push_toArray, List.append_toArray, List.nil_append, List.cons_append]
  gi_wp2
  gi_loopw [4] (fun i wr => ∃ j p : Nat, j ≤ b.length / k ∧ Hid (p = j * k) ∧ p ≤ b.length ∧ i = .int .i64 p ∧ J ((nums k b).take j) wr ∧ Kept n₀ (fun i => i = Bb ∨ i = Bk) W wr)
    (fun i _ => b.length - (intOf i).toNat)
  case atStart => exact ⟨0, 0, Nat.zero_le _, by unfold Hid; omega, Nat.zero_le _, rfl, by rw [List.take_zero]; exact h0, Kept.refl _ _ _⟩
  case round =>
    obtain ⟨j, p, hj, hp, hpl, rfl, hJs, hnx⟩ := hrel
    have c1 := (hnx.cell (.inl rfl)).trans hBb
    have c2 := (hnx.cell (.inr rfl)).trans hBk
    by_cases hlt : j < b.length / k
    · have hpk : p + k ≤ b.length := by
        have h1 := hp.out
        have h2 := HD.out
        have h3 := Nat.mul_le_mul_right k (show j + 1 ≤ b.length / k by omega)
        rw [Nat.add_mul] at h3
        omega
      have hlen : ((b.drop p).take k).length = k := by rw [List.length_take, List.length_drop]; omega
      have hdr : Lies wr n₀ (A.map (·.add p)) (((b.drop p).take k).map bv) := by
        have := ((hL.below hnx.low).drop (k := p) (c := b.length + 1) (by simp)).take k
        rw [if_neg (by omega), ← List.map_drop, ← List.map_take] at this
        exact this
      have hnum := number_any (A.map (·.add p)) (c - p) n₀ _ wr hdr (by rw [hlen]; unfold maxLen; omega)
      rw [hlen] at hnum
      have hx : numOf ((b.drop p).take k) = (numAt k b j).toNat := by rw [numAt_toNat, hp.out]
      rw [hx] at hnum
      have HN := Lib.hid hnum
      clear hnum hlen hdr hx
      have hcp : ¬ c = p := by omega
      obtain ⟨fn, tmps, assign, body, hy, hR⟩ := hY _ (numAt k b j) wr hJs (by rw [List.length_take, nums_len]; omega)
      gi_wp2_with (refine ⟨trivial, ?_⟩; gi_at_call 60; refine (callsIn_wide.2 HN.out).mono ?_; rintro e w' ⟨rfl, rfl⟩)
      refine hR.mono ?_
      rintro e W3 (⟨rfl, hJ3, hk3⟩ | ⟨rfl, hJx3⟩)
      · have d2 := (hk3.cell (.inr rfl)).trans c2
        have HT := Lib.hid (nums_take k b j hlt)
        gi_wp2
        go_roundw
        case rel => exact ⟨j + 1, p + k, by omega, by unfold Hid; rw [Nat.add_mul, ← hp.out, Nat.one_mul], by omega, by go_num, by rw [HT.out]; exact hJ3, hnx.trans hk3⟩
        case measure => simp [intOf]; omega
      · gi_wp2
        refine bodyPost_ret (results_none rfl _ _ _) rfl ?_
        exact ⟨⟨_, rfl⟩, .inr ⟨_, by rw [← nums_take k b j hlt]; exact List.take_prefix _ _, hJx3⟩⟩
    · have hp2 : p = b.length := by
        have h1 := hp.out
        have h2 := HD.out
        have h3 : j = b.length / k := by omega
        rw [h3] at h1
        omega
      have hJ2 : J (nums k b) wr := by
        rw [List.take_of_length_le (by rw [nums_len]; omega)] at hJs
        exact hJs
      clear hJs
      have hp3 : ¬ p < b.length := by omega
      clear hp2
      gi_wp2
      go_end0
      exact ⟨⟨_, rfl⟩, .inl ⟨_, rfl, hJ2⟩⟩

set_option maxHeartbeats 1000000 in
theorem numbers_in (n : Nat) (k : Int) (A : Option Addr) (m c : Nat) (w : World) :
    CallsIn Fence.wide n Tryd.prog 45 #[.int .i64 k, .slice A m c] w fun e w' => e = .returned (.func (.func 59) #[] #[.pointer (some ⟨w.heap.size + 1, 0, none⟩), .pointer (some ⟨w.heap.size, 0, none⟩)]) ∧
      w' = (w.alloc (.cells #[.int .i64 k] 3)).alloc (.cells #[.slice A m c] 24) := by
  refine callsIn_of_wp Tryd.func45 rfl trivial ?_ rfl
  simp only [Tryd.ntmps45, List.size_toArray, List.length_cons, List.length_nil, Nat.reduceAdd, Nat.reduceSub, Array.replicate_succ, Array.replicate_zero, List.push_toArray, List.append_toArray, List.nil_append, List.cons_append]
  gi_wp2
  go_ret
  exact ⟨rfl, rfl⟩

theorem numbers_stops (n : Nat) (hn : 1 ≤ n) (Bb Bk n₀ : Nat) (A : Option Addr) (c k : Nat) (b : List UInt8) (hk : 1 ≤ k) (hk4 : k ≤ 4) (hm : b.length % k = 0) (hs : b.length ≤ 140737488355328) (hbc : b.length ≤ c)
    (w : World) (hBb : w.cell? ⟨Bb, 0, none⟩ = some (.slice A b.length c)) (hBk : w.cell? ⟨Bk, 0, none⟩ = some (.int .i64 (k : Int))) (hb1 : Bb < w.heap.size) (hb2 : Bk < w.heap.size) (hn₀ : n₀ ≤ w.heap.size) (hL : Lies w n₀ A (b.map bv)) :
    SeqStopsK Fence.wide n Tryd.prog 59 #[.pointer (some ⟨Bb, 0, none⟩), .pointer (some ⟨Bk, 0, none⟩)] (fun x : UInt32 => #[Value.int .u32 (x.toNat : Int)]) (Kept n₀ (fun i => i = Bb ∨ i = Bk)) (fun ys => ys = nums k b) (fun pre => pre <+: nums k b) (b.length / k) w := fun l J Jx W hW _ _ hY h0 =>
  numbers1_in n hn l Bb Bk n₀ A c k b hk hk4 hm hs hbc J Jx hY W ((hW.cell (p := ⟨Bb, 0, none⟩) hb1).trans hBb) ((hW.cell (p := ⟨Bk, 0, none⟩) hb2).trans hBk) (hL.below (hW.mono hn₀)) h0

theorem numbersF_bad (k : Int) (A : Option Addr) (n c : Nat) (w : World) (hk : widthB k = false) :
    Calls Tryd.prog 27 #[.int .i64 k, .slice A n c] w fun e w' => e = .returned (.slice none 0 0) ∧ w = w' := by
  go_enter Tryd.func27, Tryd.ntmps27
  go_wp2_with (go_at_call 44; refine (isWidth_any _ _).mono ?_; rintro e w' ⟨rfl, rfl⟩)
  go_ret
  exact ⟨rfl, rfl⟩

theorem u32info : (Tryd.prog.info? 63).map (fun i => (i.zero, i.size, i.bytes)) = some (some (.int .u32 0), 1, 4) := by kernel_rfl

theorem numbersF_rem (k : Nat) (hk : widthB k = true) (A : Option Addr) (n c : Nat) (w : World) (hm : n % k ≠ 0) (hn : n ≤ maxLen) :
    Calls Tryd.prog 27 #[.int .i64 (k : Int), .slice A n c] w fun e w' => e = .returned (.slice none 0 0) ∧ w = w' := by
  unfold maxLen at hn
  have hb : (((n : Int) % (k : Int)) != 0) = true := by
    rw [bne_iff_ne]
    omega
  have hk0 : 1 ≤ k := by
    rcases Nat.eq_zero_or_pos k with rfl | h
    · simp [widthB] at hk
    · exact h
  clear hm
  go_enter Tryd.func27, Tryd.ntmps27
  go_wp2_with (go_at_call 44; refine (isWidth_any _ _).mono ?_; rintro e w' ⟨rfl, rfl⟩)
  go_ret
  exact ⟨rfl, rfl⟩

set_option maxRecDepth 100000 in
set_option maxHeartbeats 2000000 in
theorem numbersF_any (k : Nat) (hk : widthB k = true) (A : Option Addr) (c : Nat) (b : List UInt8) (w : World) (h : Lies w w.heap.size A (b.map bv)) (hm : b.length % k = 0) (hs : b.length ≤ 35184372088832) (hbc : b.length ≤ c) :
    Calls Tryd.prog 27 #[.int .i64 (k : Int), .slice A b.length c] w fun e w' => ∃ A' c', e = .returned (.slice A' (b.length / k) c') ∧
      w'.ownsRow w.heap.size 63 1 (.slice A' (b.length / k) c') (b.length / k) ((nums k b).map uv) ∧ Below w.heap.size w w' := by
  have hk0 : 1 ≤ k := by
    rcases Nat.eq_zero_or_pos k with rfl | h
    · simp [widthB] at hk
    · exact h
  have hk4 : k ≤ 4 := by
    simp [widthB] at hk
    omega
  have hb : (((b.length : Int) % (k : Int)) != 0) = false := by
    rw [bne_eq_false_iff_eq]
    omega
  have hle : b.length / k ≤ b.length := Nat.div_le_self _ _
  obtain ⟨i0, hi, hz0, hz1, hz2⟩ := info_parts u32info
  have hq : wrap64 ((b.length : Int) / (k : Int)) = ((b.length / k : Nat) : Int) := by rw [show ((b.length : Int) / (k : Int)) = ((b.length / k : Nat) : Int) by simp]; generalize b.length / k = q at *; exact IntWalk.wrap64_in _ ⟨by omega, by omega⟩
  have HQ := Lib.hid hq
  have HM := Lib.hid hm
  clear hq hm
  refine (callsIn_wide (n := 6)).1 ?_
  refine callsIn_of_wp_marks Tryd.func27 rfl trivial ?_ rfl
  simp only [Tryd.ntmps27, List.size_toArray, List.length_cons, List.length_nil, Nat.reduceAdd, Nat.reduceSub, Array.replicate_succ, Array.replicate_zero, List.push_toArray, List.append_toArray, List.nil_append, List.cons_append]
  gi_wp2_with (first | (refine ⟨trivial, ?_⟩; gi_at_call 44; refine (callsIn_wide.2 (isWidth_any _ _)).mono ?_; rintro e w' ⟨rfl, rfl⟩) | (gi_at_make; refine wpListIn_make_own _ rfl _ _ 61 rfl w.heap.size 63 i0 _ 1 Tryd.underlying61 hi hz0 hz1 .i64 .i64 _ (b.length / k) rfl rfl HQ.out (by rw [hz2]; omega) (by unfold maxLen; omega) (Nat.le_refl _) ?_; intro w1 hown hgrow) | (refine ⟨trivial, ?_⟩; gi_at_call 45; refine (numbers_in _ _ _ _ _ _).mono ?_; rintro e w' ⟨rfl, rfl⟩))
  have bO := Boxed.new w1 61 (.slice (some ⟨w.heap.size, 0, none⟩) 0 (b.length / k))
  have bK := Boxed.new (w1.alloc (.cells #[.slice (some ⟨w.heap.size, 0, none⟩) 0 (b.length / k)] 61)) 3 (.int .i64 (k : Int))
  have bB := Boxed.new ((w1.alloc (.cells #[.slice (some ⟨w.heap.size, 0, none⟩) 0 (b.length / k)] 61)).alloc (.cells #[.int .i64 (k : Int)] 3)) 24 (.slice A b.length c)
  simp only [World.size_alloc] at bK bB
  have hsz : w.heap.size ≤ w1.heap.size := hgrow.size
  have hb1 : Below w.heap.size w w1 := (Below.refl _ _).grown hgrow (Nat.le_refl _) (by simp)
  have hB0 := ((hb1.alloc hsz (.cells #[.slice (some ⟨w.heap.size, 0, none⟩) 0 (b.length / k)] 61)).alloc (by simp; omega) (.cells #[.int .i64 (k : Int)] 3)).alloc (by simp; omega) (.cells #[.slice A b.length c] 24)
  refine wpIn_rangeFunc_ownG rfl (by omega) (gf := 59) (lb := #[.pointer (some ⟨w1.heap.size + 1 + 1, 0, none⟩), .pointer (some ⟨w1.heap.size + 1, 0, none⟩)]) rfl trivial (enters_of Tryd.func59 (by kernel_rfl) rfl)
    (numbers_stops 5 (by omega) (w1.heap.size + 1 + 1) (w1.heap.size + 1) w.heap.size A c k b hk0 hk4 HM.out (by omega) hbc _ bB.cell (bK.alloc _).cell (by simp) (by simp) (by simp; omega) (h.below hB0))
    Kept.trans (Kept.putObj (by simp; omega) (by simp)) (Below.refl _ _) (fun _ => rfl)
    (fun pre W => (∃ v, Boxed W w1.heap.size 61 v ∧ W.ownsRow w.heap.size 63 1 v pre.length (pre.map uv) ∧ Boxed W (w1.heap.size + 1) 3 (.int .i64 (k : Int)) ∧ Boxed W (w1.heap.size + 1 + 1) 24 (.slice A b.length c)) ∧ Below w.heap.size w W ∧ w1.heap.size + 1 + 1 < W.heap.size)
    (fun _ _ _ => False) ?hI (fun _ _ _ _ _ hs _ _ => hs)
    ⟨⟨_, (bO.alloc _).alloc _, ((hown.alloc _).alloc _).alloc _, bK.alloc _, bB⟩, hB0, by simp⟩
    (fun x => { tmps := #[.int .i64 (k : Int), .slice A b.length c, undef, undef, .slice none 0 0, .pointer (some ⟨w1.heap.size, 0, none⟩), .int .u32 (x.toNat : Int), .int .i64 (k : Int), .bool true, .bool false, .bool false, .slice A b.length c, .int .i64 (b.length : Int), .int .i64 (k : Int), .int .i64 ((b.length : Int) % (k : Int)), .bool false, .bool false, .slice A b.length c, .int .i64 (b.length : Int), .int .i64 (k : Int), .int .i64 (wrap64 ((b.length : Int) / (k : Int))), .slice (some ⟨w.heap.size, 0, none⟩) 0 (b.length / k), .int .i64 (k : Int), .slice A b.length c, .func (.func 59) #[] #[.pointer (some ⟨w1.heap.size + 1 + 1, 0, none⟩), .pointer (some ⟨w1.heap.size + 1, 0, none⟩)], .int .u32 (x.toNat : Int), undef, undef, undef, undef, undef], defers := [] }) ?assign ?body ?done ?stop
  case hI =>
    rintro s X Y row ⟨⟨v, h1, h2, h3, h4⟩, h5, h6⟩ hg hr
    have hne : ∀ (i : Nat) (cs : Array Value) (t : TypeId) (z : Nat × Nat), X.heap[i]? = some (.cells cs t z) → some i ≠ row := by
      intro i cs t z hi e
      obtain ⟨_, o, ho, hoc⟩ := hr i e.symm
      rw [hi] at ho
      cases ho
      cases hoc
    refine ⟨⟨v, h1.kept hg (hne _ _ _ _ h1), h2.kept hg ?_, h3.kept hg (hne _ _ _ _ h3), h4.kept hg (hne _ _ _ _ h4)⟩, h5.grown hg h5.size (fun k e => by have := (hr k e).1; simp at this; omega), Nat.lt_of_lt_of_le h6 hg.size⟩
    rcases h2.2 with ⟨rfl, _⟩ | ⟨g, cap, cur, rfl, _, hh, _⟩
    · exact .inl rfl
    · exact .inr (hne g _ _ _ hh)
  case assign =>
    intro l x W K hK
    gi_wp2
    exact hK
  case body =>
    rintro l pre x W ⟨⟨v, hv, hrow, hk3, hk4'⟩, hB, hW⟩ hlt
    have hc := hv.cell
    gi_wp2_with (gi_at_builtin; refine wpListIn_append_lies _ rfl (.tmp 26) (.tmp 28) 61 rfl w.heap.size 63 _ 4 Tryd.underlying61 u32info rfl _ _ _ rfl (hrow.alloc _) _ _ 1 1 _ rfl rfl (Lies.new1 _ _ _) (by intro u hu; rw [List.mem_singleton.1 hu]; rfl) (by omega) (by unfold maxLen; omega) (by simp; have := hB.size; omega) ?_; intro A' c' w' hown' hgrow' _; obtain ⟨hv1, hv2, hr2, hko, hb2⟩ := hv.appended (by decide) hrow hB.size hsz hown' hgrow'; have hc1 := hv1.cell; have hf1 := hv1.frozen)
    have hg1 : (W.alloc (.cells #[.int .u32 (x.toNat : Int)] 63)).grownBy w' v.ownBlock := hgrow'
    have hx1 : some (w1.heap.size + 1) ≠ v.ownBlock := (boxed_row_ne hk3 (by decide) hrow).symm
    have hx2 : some (w1.heap.size + 1 + 1) ≠ v.ownBlock := (boxed_row_ne hk4' (by decide) hrow).symm
    have n1 := ((hk3.alloc (.cells #[.int .u32 (x.toNat : Int)] 63)).kept hg1 hx1).kept (grownBy_setCell' w' w1.heap.size (.slice A' (pre.length + 1) c')) (by simp)
    have n2 := ((hk4'.alloc (.cells #[.int .u32 (x.toNat : Int)] 63)).kept hg1 hx2).kept (grownBy_setCell' w' w1.heap.size (.slice A' (pre.length + 1) c')) (by simp; omega)
    refine ⟨hko.from _, ⟨hb2, fun i hi => ?_⟩, ⟨_, hv2, by simpa using hr2, n1, n2⟩, hB.trans hb2, Nat.lt_of_lt_of_le hW hb2.size⟩
    rcases hi with rfl | rfl
    · exact n2.trans hk4'.symm
    · exact n1.trans hk3.symm
  case done =>
    rintro D ys W hD rfl ⟨⟨v, hv, hrow, _, _⟩, hB, _⟩ hK
    have hc := hv.cell
    have hl := nums_len k b
    obtain ⟨A', c', rfl⟩ : ∃ A' c', v = .slice A' (nums k b).length c' := by
      rcases hrow.2 with ⟨rfl, h0⟩ | ⟨g, cap, cur, rfl, _⟩
      · exact ⟨none, 0, by rw [h0]⟩
      · exact ⟨_, _, rfl⟩
    rw [hl] at hrow hc
    clear hl hv
    gi_wp2
    refine ⟨by simp, .inl ⟨_, _, rfl, run_takeDeferred hK, ?_⟩⟩
    exact ⟨_, results_tmp rfl _ _ _, A', c', rfl, ownsRow_putObj hrow _ hK rfl, hB.trans (belowK_b (w := w) (Nat.le_refl _) W D _ _ (by simp at hD; omega) hK rfl rfl)⟩
  case stop =>
    rintro D c pre W _ _ h _
    exact h.elim
end Go.Proofs.YtemeeeiglifpaaaDoor

