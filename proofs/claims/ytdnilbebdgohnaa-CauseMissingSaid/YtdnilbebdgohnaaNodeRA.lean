/- Layer 8, the reference: Size, Inside, wanted, Counted, for whatever nodes. They write nothing that was there. -/
import Derived.Test.YtdnilbebdgohnaaNodeF
import Derived.Test.YtdnilbebdgohnaaTlvD
import Derived.Test.YtdnilbebdgohnaaPadAR
import Derived.Test.YtdnilbebdgohnaaRNumber
import Derived.Test.YtdnilbebdgohnaaShapeR
import Derived.Deep.RegionHeld3






namespace Go.Proofs.Ytdnilbebdgohnaa
open Go.RowKit

/-! ### Size -/
/-- the sum behind i rounds -/
def ra (ls : List Nat) (i : Nat) : Nat := if i < ls.length then up (sizes (ls.take i)) else sizes ls
theorem gap_up (a b : Nat) : gap (up a + b) = gap b := by unfold up gap; omega
theorem ra_zero (ls : List Nat) : ra ls 0 = 0 := by
  unfold ra
  cases ls with
  | nil => rfl
  | cons x l => rw [if_pos (by simp)]; simp [sizes, up, gap]
theorem ra_next {ls : List Nat} {i x : Nat} (h : ls[i]? = some x) (hi : i + 1 < ls.length) : ra ls (i + 1) = ra ls i + x + gap x := by
  unfold ra
  rw [if_pos hi, if_pos (by omega), sizes_take h]
  show up (sizes (ls.take i)) + x + gap (up (sizes (ls.take i)) + x) = _
  rw [gap_up]
theorem ra_last {ls : List Nat} {i x : Nat} (h : ls[i]? = some x) (hi : i + 1 = ls.length) : ra ls (i + 1) = ra ls i + x := by
  unfold ra
  rw [if_neg (by omega), if_pos (by omega)]
  have h1 := sizes_take h
  rw [List.take_of_length_le (by omega)] at h1
  exact h1
theorem ra_le (ls : List Nat) (i : Nat) : ra ls i ≤ sizes ls + 3 := by
  unfold ra
  split
  · have := sizes_mono (l := ls) (k := i)
    have := gap_lt (sizes (ls.take i))
    unfold up
    omega
  · omega
def RSizeOK (ns : List Nd) : Prop := ∀ (A : Option Addr) (c : Nat) (w : World), Nodes w w.heap.size A ns → ns.length ≤ 1000 → (∀ n ∈ ns, Fine n) → sizes (lens ns) ≤ 900000000 →
  Calls Try.prog 40 #[.slice A ns.length c] w fun e w' => e = .returned (.int .i64 (sizes (lens ns) : Nat)) ∧ Below w.heap.size w w'
set_option maxRecDepth 100000 in
set_option maxHeartbeats 4000000 in
theorem rsize_step (ns : List Nd) (ih : ∀ n ∈ ns, RSizeOK n.ks) : RSizeOK ns := by
  intro A c w h hn hf hsz
  have HI := Lib.hid ih
  have HF := Lib.hid hf
  have HZ := Lib.hid (ra_zero (lens ns))
  have HLE : Hid (∀ i, ra (lens ns) i ≤ 900000003) := fun i => Nat.le_trans (ra_le _ i) (by omega)
  have HLL := Lib.hid (lens_len ns)
  have HEND : Hid (ra (lens ns) ns.length = sizes (lens ns)) := by unfold ra; rw [lens_len, if_neg (by omega)]; rfl
  generalize sizes (lens ns) = total at *
  clear ih hf hsz
  go_enter Try.func40, Try.ntmps40
  go_wp2_with fail
  go_loopw [3, 4] (fun v i wr => ∃ (k : Nat), k ≤ ns.length ∧ i = .int .i64 k ∧ v = .int .i64 (ra (lens ns) k : Nat) ∧ Below w.heap.size w wr) (fun _ i _ => ns.length - (intOf i).toNat)
  case atStart => exact ⟨0, Nat.zero_le _, rfl, by rw [HZ.out]; rfl, Below.refl _ _⟩
  case round =>
    obtain ⟨k, hk, rfl, rfl, hbel⟩ := hrel
    by_cases hlt : k < ns.length
    · obtain ⟨ad, A2, c2, K2, k2, x, rfl, hb, hx, e0, e1, e2, hN⟩ := (h.bel hbel).at_ hlt
      have hmem := List.mem_of_getElem? hx.out
      have hfx := HF.out x hmem
      have hvl := hfx.vl
      have hve := x.vlen_eq
      have hlx := lens_at hx.out
      have hS := fun W (hW : Below wr.heap.size wr W) => HI.out x hmem K2 k2 W ((hN.kids.bel (hW.mono hbel.size)).more (Nat.le_trans hbel.size hW.size)) hfx.kl hfx.kid (by omega)
      have HS := Lib.hid hS
      have hws := hbel.size
      have KS : Hid (∀ W, Below wr.heap.size wr W → W.cell? ⟨(ad.add (k * 3)).block, (ad.add (k * 3)).off + 1, none⟩ = some (.slice A2 x.v.length c2) ∧ W.cell? ⟨(ad.add (k * 3)).block, (ad.add (k * 3)).off + 2, none⟩ = some (.slice K2 x.ks.length k2)) := fun W hW =>
        ⟨(hW.cell (p := ⟨(ad.add (k * 3)).block, (ad.add (k * 3)).off + 1, none⟩) (by show (ad.add (k * 3)).block < _; rw [blk_add]; omega)).trans e1, (hW.cell (p := ⟨(ad.add (k * 3)).block, (ad.add (k * 3)).off + 2, none⟩) (by show (ad.add (k * 3)).block < _; rw [blk_add]; omega)).trans e2⟩
      generalize sizes (lens x.ks) = r at *
      obtain ⟨q, hq⟩ : ∃ q, q = 4 + x.vlen := ⟨_, rfl⟩
      rw [← hq] at hlx
      have hq9 : q ≤ 800004 := by omega
      have HQ := Lib.hid (show (4 : Int) + (x.v.length : Int) + (r : Int) = (q : Int) by omega)
      have hw1 : IntKind.i64.wrap (4 + (x.v.length : Int)) = 4 + (x.v.length : Int) := by rw [IntKind.wrap_i64]; omega
      have hw2 : IntKind.i64.wrap (4 + (x.v.length : Int) + (r : Int)) = 4 + (x.v.length : Int) + (r : Int) := by rw [IntKind.wrap_i64]; omega
      have hle0 := HLE.out k
      have hle1 := HLE.out (k + 1)
      have HNX := Lib.hid (fun (hi : k + 1 < (lens ns).length) => ra_next hlx hi)
      have HNL := Lib.hid (fun (hi : k + 1 = (lens ns).length) => ra_last hlx hi)
      have hg4 := gap_lt q
      have hG := fun W => rgap_any q (by omega) W
      clear hN hfx hmem hvl hve hx hlx hS hb hq
      generalize hra : ra (lens ns) k = a at *
      generalize hrb : ra (lens ns) (k + 1) = b at *
      have HRB := Lib.hid hrb
      clear hra hrb
      go_wp2_with fail
      go_region_held3 (fun W => W.cell? ⟨(ad.add (k * 3)).block, (ad.add (k * 3)).off + 1, none⟩ = some (.slice A2 x.v.length c2) ∧ W.cell? ⟨(ad.add (k * 3)).block, (ad.add (k * 3)).off + 2, none⟩ = some (.slice K2 x.ks.length k2))
        (first | exact KS.out _ (below_drew (Below.refl _ _)) | exact KS.out _ b5 | fail)
        (first | (go_at_call 40; (with_reducible refine (HS.out _ (below_drew (Below.refl _ _))).mono ?_); rintro e w5 ⟨rfl, b5'⟩; have b5 : Below wr.heap.size wr w5 := below_undrew b5'))
      rw [HQ.out]
      clear HQ hw1 hw2 e0 e1 e2
      have hw3 : IntKind.i64.wrap ((a : Int) + (q : Int)) = (a : Int) + (q : Int) := by rw [IntKind.wrap_i64]; omega
      have hw4 : IntKind.i64.wrap ((a : Int) + (q : Int) + (gap q : Int)) = (a : Int) + (q : Int) + (gap q : Int) := by rw [IntKind.wrap_i64]; omega
      have hB5 := hbel.trans (b5.mono hbel.size)
      by_cases hlast : k + 1 < ns.length
      · have hc1 : (k : Int) < (ns.length : Int) - 1 := by omega
        have HV := Lib.hid (HNX.out (by rw [HLL.out]; exact hlast))
        clear hlast
        go_wp2_with fail
        refine (hG _).mono ?_
        rintro e w6 ⟨rfl, rfl⟩
        go_wp2_with fail
        go_roundw
        case rel => exact ⟨k + 1, by omega, by go_num, by rw [HRB.out, HV.out]; go_num, hB5⟩
        case measure => simp [intOf]; omega
      · have hc1 : ¬ (k : Int) < (ns.length : Int) - 1 := by omega
        have HV := Lib.hid (HNL.out (by rw [HLL.out]; omega))
        clear hlast
        go_wp2_with fail
        go_roundw
        case rel => exact ⟨k + 1, by omega, by go_num, by rw [HRB.out, HV.out]; go_num, hB5⟩
        case measure => simp [intOf]; omega
    · obtain rfl : k = ns.length := by omega
      rw [HEND.out]
      go_wp2_with fail
      go_ret
      exact ⟨rfl, hbel⟩
theorem rsize_any (ns : List Nd) : (∀ n ∈ ns, Fine n) → RSizeOK ns := by
  refine Nds.ind (P := fun ns => (∀ n ∈ ns, Fine n) → RSizeOK ns) (fun ns ih hf => ?_) ns
  exact rsize_step ns fun n hn => ih n hn (hf n hn).kid

/-! ### Inside, wanted -/
theorem rinside_any (k : Int) (hk : 0 ≤ k ∧ k ≤ 4) (w : World) : Calls Try.prog 39 #[.int .i64 k] w fun e w' => e = .returned (.int .i64 (ins k).1) ∧ w = w' := by
  have h5 : k = 0 ∨ k = 1 ∨ k = 2 ∨ k = 3 ∨ k = 4 := by omega
  rcases h5 with rfl | rfl | rfl | rfl | rfl
  all_goals
    go_enter Try.func39, Try.ntmps39
    go_wp2_with fail
    go_ret
    exact ⟨rfl, rfl⟩
theorem ki_tab {c : Int} {F : Form} (h : F ∈ tab c) : 0 ≤ F.ki ∧ F.ki ≤ 4 := by
  have hp : (pT.all fun f => decide (0 ≤ f.ki) && decide (f.ki ≤ 4)) = true := by decide
  have hc : (cT.all fun f => decide (0 ≤ f.ki) && decide (f.ki ≤ 4)) = true := by decide
  have key : ∀ L : List Form, (L.all fun f => decide (0 ≤ f.ki) && decide (f.ki ≤ 4)) = true → F ∈ L → 0 ≤ F.ki ∧ F.ki ≤ 4 := fun L hL hm => by
    have := List.all_eq_true.1 hL F hm
    simpa using this
  unfold tab at h
  split at h
  · exact key _ hp h
  · split at h
    · exact key _ hc h
    · cases h
theorem ins_b0 (ks : List Nd) : insB 0 ks = ((ks.length : Int) == 0) := by
  unfold insB
  simp only [show (ins 0).2.1 = 0 by decide, show (ins 0).2.2 = 0 by decide]
  rw [Bool.eq_iff_iff]
  simp
theorem ins_b1 (ks : List Nd) : insB 1 ks = ((ks.length : Int) == 1) := by
  unfold insB
  simp only [show (ins 1).2.1 = 1 by decide, show (ins 1).2.2 = 1 by decide]
  rw [Bool.eq_iff_iff]
  simp
  omega
theorem ins_b2 (k : Int) (hk : k = 2 ∨ k = 3) (ks : List Nd) : insB k ks = (decide ((1 : Int) ≤ (ks.length : Int)) && decide ((ks.length : Int) ≤ 16384)) := by
  rcases hk with rfl | rfl
  · unfold insB
    simp only [show (ins 2).2.1 = 1 by decide, show (ins 2).2.2 = 16384 by decide]
    simp
  · unfold insB
    simp only [show (ins 3).2.1 = 1 by decide, show (ins 3).2.2 = 16384 by decide]
    simp
theorem ins_b4 (ks : List Nd) : insB 4 ks = (((ks.length : Int) == 1) && addr1 ks) := by
  unfold insB
  simp only [show (ins 4).2.1 = 1 by decide, show (ins 4).2.2 = 1 by decide]
  rw [Bool.eq_iff_iff]
  simp
  intro _
  omega
set_option maxRecDepth 100000 in
set_option maxHeartbeats 2000000 in
theorem rwanted_any (f : Form) (hki : 0 ≤ f.ki ∧ f.ki ≤ 4) (K : Option Addr) (k : Nat) (ks : List Nd) (w : World) (h : Nodes w w.heap.size K ks) (hn : ks.length ≤ 10000000) :
    Calls Try.prog 37 #[f.val, .slice K ks.length k] w fun e w' => e = .returned (.bool (insB f.ki ks)) ∧ Below w.heap.size w w' := by
  obtain ⟨cl, ty, nm, lo, hi, un, ki⟩ := f
  unfold Form.val
  simp only at hki ⊢
  have h5 : ki = 0 ∨ ki = 1 ∨ (ki = 2 ∨ ki = 3) ∨ ki = 4 := by omega
  rcases h5 with rfl | rfl | h23 | rfl
  · rw [ins_b0]
    go_enter Try.func37, Try.ntmps37
    go_wp2_with fail
    go_ret
    exact ⟨rfl, (Below.refl _ _).alloc (Nat.le_refl _) _⟩
  · rw [ins_b1]
    go_enter Try.func37, Try.ntmps37
    go_wp2_with fail
    go_ret
    exact ⟨rfl, (Below.refl _ _).alloc (Nat.le_refl _) _⟩
  · rw [ins_b2 ki h23]
    by_cases c1 : (1 : Int) ≤ (ks.length : Int)
    · have hd : decide ((1 : Int) ≤ (ks.length : Int)) = true := decide_eq_true c1
      rcases h23 with rfl | rfl
      all_goals
        go_enter Try.func37, Try.ntmps37
        go_wp2_with fail
        go_ret
        exact ⟨ret_bool (by first | (simp; done) | simp [c1]), (Below.refl _ _).alloc (Nat.le_refl _) _⟩
    · have hd : decide ((1 : Int) ≤ (ks.length : Int)) = false := decide_eq_false c1
      rcases h23 with rfl | rfl
      all_goals
        go_enter Try.func37, Try.ntmps37
        go_wp2_with fail
        go_ret
        exact ⟨ret_bool (by first | (simp; done) | simp [c1]), (Below.refl _ _).alloc (Nat.le_refl _) _⟩
  · rw [ins_b4]
    by_cases c1 : ks.length = 1
    · have hq1 : ((ks.length : Int) == 1) = true := by rw [c1]; rfl
      have hk0 : 0 < ks.length := by omega
      obtain ⟨ad, A', c', K', k', n, rfl, hb, hn', hc0, hc1, hc2, hN⟩ := h.at_ hk0
      have HA : Hid (addr1 ks = (decide (n.t = 5) || decide (n.t = 6))) := by
        match ks, hn'.out with
        | x :: ks, hx => simp only [List.getElem?_cons_zero, Option.some.injEq] at hx; subst hx; rfl
      have hz : ad.add (0 * 3) = ad := by simp [Addr.add]
      rw [hz] at hc0
      rw [hq1, HA.out]
      have hl0 : (0 : Int) < (ks.length : Int) := by omega
      clear hc1 hc2 c1 HA
      by_cases t5 : n.t = 5
      · have hq : ((n.t.toNat : Int) == 5) = true := by rw [t5]; rfl
        rw [decide_eq_true t5]
        clear t5
        go_enter Try.func37, Try.ntmps37
        go_wp2_with fail
        go_ret
        exact ⟨by simp, (Below.refl _ _).alloc (Nat.le_refl _) _⟩
      · have hq : ((n.t.toNat : Int) == 5) = false := by
          rw [beq_eq_false_iff_ne]
          intro e
          exact t5 (UInt16.toNat_inj.1 (by show n.t.toNat = 5; omega))
        rw [decide_eq_false t5]
        have HE : Hid (((n.t.toNat : Int) == 6) = decide (n.t = 6)) := by
          by_cases t6 : n.t = 6
          · rw [decide_eq_true t6, t6]; rfl
          · rw [decide_eq_false t6, Hid, beq_eq_false_iff_ne]
            intro e
            exact t6 (UInt16.toNat_inj.1 (by show n.t.toNat = 6; omega))
        clear t5
        go_enter Try.func37, Try.ntmps37
        go_wp2_with fail
        go_ret
        exact ⟨ret_bool (by rw [HE.out]; rfl), (Below.refl _ _).alloc (Nat.le_refl _) _⟩
    · have hq1 : ((ks.length : Int) == 1) = false := by rw [beq_eq_false_iff_ne]; omega
      rw [hq1]
      clear c1
      go_enter Try.func37, Try.ntmps37
      go_wp2_with fail
      go_ret
      exact ⟨rfl, (Below.refl _ _).alloc (Nat.le_refl _) _⟩

/-! ### Counted -/
def rcB (v : List UInt8) : Bool := decide (4 ≤ v.length) && decide (2 * numOf (v.take 4) = v.length - 4)
theorem rcB_eq {v : List UInt8} (h : v.length % 2 = 0) : rcB v = cntB 2 2 v := by
  unfold rcB cntB
  by_cases h4 : 4 ≤ v.length
  · simp only [h4, decide_true, Bool.true_and, Bool.and_true, Bool.not_true, Bool.false_or]
    rw [decide_eq_decide]
    omega
  · simp [h4]
theorem rcounted_any (A : Option Addr) (c B : Nat) (v : List UInt8) (w : World) (h : Lies w B A (v.map bv)) (hn : v.length ≤ 10000000) :
    Calls Try.prog 38 #[.slice A v.length c] w fun e w' => e = .returned (.bool (rcB v)) ∧ w = w' := by
  by_cases h4 : 4 ≤ v.length
  · have hN := rnumber_yes A c B v 0 4 w h (by omega) rfl (by omega)
    have hlt := numOf_lt ((v.drop 0).take 4)
    have R : Hid (rcB v = (2 * (numOf ((v.drop 0).take 4) : Int) == (v.length : Int) - 4)) := by
      unfold Hid rcB
      rw [List.drop_zero, decide_eq_true h4, Bool.true_and, Bool.eq_iff_iff]
      simp
      omega
    generalize numOf ((v.drop 0).take 4) = x at *
    have hw1 : IntKind.i64.wrap (2 * (x : Int)) = 2 * (x : Int) := by rw [IntKind.wrap_i64]; omega
    rw [R.out]
    clear h4 R
    go_enter Try.func38, Try.ntmps38
    go_wp2_with fail
    refine hN.mono ?_
    rintro e w1 ⟨rfl, rfl⟩
    go_wp2_with fail
    go_ret
    exact ⟨rfl, rfl⟩
  · have hN := rnumber_no A v.length c 0 4 w (by omega) (by omega) (by rintro ⟨_, h9⟩; omega)
    have R : Hid (rcB v = ((0 : Int) == (v.length : Int) - 4)) := by
      unfold Hid rcB
      rw [decide_eq_false h4, Bool.false_and, eq_comm, beq_eq_false_iff_ne]
      omega
    rw [R.out]
    clear h4 R
    go_enter Try.func38, Try.ntmps38
    go_wp2_with fail
    refine hN.mono ?_
    rintro e w1 ⟨rfl, rfl⟩
    go_wp2_with fail
    go_ret
    exact ⟨rfl, rfl⟩
end Go.Proofs.Ytdnilbebdgohnaa

