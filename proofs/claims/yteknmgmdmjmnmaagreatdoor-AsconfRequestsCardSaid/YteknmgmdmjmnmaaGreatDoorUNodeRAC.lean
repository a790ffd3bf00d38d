/- NodeRA + NodeRB + NodeRC -/
import Derived.Test.YteknmgmdmjmnmaaGreatDoorUNF
import Derived.Test.YteknmgmdmjmnmaaGreatDoorUTC
import Derived.Test.YteknmgmdmjmnmaaGreatDoorURefNS
import Derived.Deep.RegionHeld3
import Derived.Deep.Cut
import Derived.Test.YteknmgmdmjmnmaaGreatDoorUNA
import Derived.Test.YteknmgmdmjmnmaaGreatDoorUTA
import Derived.Test.YteknmgmdmjmnmaaGreatDoorUNS
import Derived.Test.YteknmgmdmjmnmaaGreatDoorUNO






namespace Go.Proofs.YteknmgmdmjmnmaaGreatDoor
open Go.RowKit

/-! ### Size -/
/-- the sum behind i rounds -/
def ra (ls : List Nat) (i : Nat) : Nat := if i < ls.length then up (sizes (ls.take i)) else sizes ls
theorem gap_up (a b : Nat) : gap (up a + b) = gap b := by unfold up gap; omega
theorem ra_zero (ls : List Nat) : ra ls 0 = 0 := by
  unfold ra
  cases ls with
  | nil => rfl
  | cons x l => rw [if_pos (by simp)]; simp [sizes, up, gap]
theorem ra_next {ls : List Nat} {i x : Nat} (h : ls[i]? = some x) (hi : i + 1 < ls.length) : ra ls (i + 1) = ra ls i + x + gap x := by
  unfold ra
  rw [if_pos hi, if_pos (by omega), sizes_take h]
  show up (sizes (ls.take i)) + x + gap (up (sizes (ls.take i)) + x) = _
  rw [gap_up]
theorem ra_last {ls : List Nat} {i x : Nat} (h : ls[i]? = some x) (hi : i + 1 = ls.length) : ra ls (i + 1) = ra ls i + x := by
  unfold ra
  rw [if_neg (by omega), if_pos (by omega)]
  have h1 := sizes_take h
  rw [List.take_of_length_le (by omega)] at h1
  exact h1
theorem ra_le (ls : List Nat) (i : Nat) : ra ls i ≤ sizes ls + 3 := by
  unfold ra
  split
  · have := sizes_mono (l := ls) (k := i)
    have := gap_lt (sizes (ls.take i))
    unfold up
    omega
  · omega
def RSizeOK (ns : List Nd) : Prop := ∀ (A : Option Addr) (c : Nat) (w : World), Nodes w w.heap.size A ns → ns.length ≤ 1000 → (∀ n ∈ ns, Fine n) → sizes (lens ns) ≤ 900000000 →
  Calls Tryz.prog 112 #[.slice A ns.length c] w fun e w' => e = .returned (.int .i64 (sizes (lens ns) : Nat)) ∧ Below w.heap.size w w'
set_option maxRecDepth 100000 in
set_option maxHeartbeats 4000000 in
theorem rsize_step (ns : List Nd) (ih : ∀ n ∈ ns, RSizeOK n.ks) : RSizeOK ns := by
  intro A c w h hn hf hsz
  have HI := Lib.hid ih
  have HF := Lib.hid hf
  have HZ := Lib.hid (ra_zero (lens ns))
  have HLE : Hid (∀ i, ra (lens ns) i ≤ 900000003) := fun i => Nat.le_trans (ra_le _ i) (by omega)
  have HLL := Lib.hid (lens_len ns)
  have HEND : Hid (ra (lens ns) ns.length = sizes (lens ns)) := by unfold ra; rw [lens_len, if_neg (by omega)]; rfl
  generalize sizes (lens ns) = total at *
  clear ih hf hsz
  go_enter Tryz.func112, Tryz.ntmps112
  go_wp2_with fail
  go_loopw [3, 4] (fun v i wr => ∃ (k : Nat), k ≤ ns.length ∧ i = .int .i64 k ∧ v = .int .i64 (ra (lens ns) k : Nat) ∧ Below w.heap.size w wr) (fun _ i _ => ns.length - (intOf i).toNat)
  case atStart => exact ⟨0, Nat.zero_le _, rfl, by rw [HZ.out]; rfl, Below.refl _ _⟩
  case round =>
    obtain ⟨k, hk, rfl, rfl, hbel⟩ := hrel
    by_cases hlt : k < ns.length
    · obtain ⟨ad, A2, c2, K2, k2, x, rfl, hb, hx, e0, e1, e2, hN⟩ := (h.bel hbel).at_ hlt
      have hmem := List.mem_of_getElem? hx.out
      have hfx := HF.out x hmem
      have hvl := hfx.vl
      have hve := x.vlen_eq
      have hlx := lens_at hx.out
      have hS := fun W (hW : Below wr.heap.size wr W) => HI.out x hmem K2 k2 W ((hN.kids.bel (hW.mono hbel.size)).more (Nat.le_trans hbel.size hW.size)) hfx.kl hfx.kid (by omega)
      have HS := Lib.hid hS
      have hws := hbel.size
      have KS : Hid (∀ W, Below wr.heap.size wr W → W.cell? ⟨(ad.add (k * 3)).block, (ad.add (k * 3)).off + 1, none⟩ = some (.slice A2 x.v.length c2) ∧ W.cell? ⟨(ad.add (k * 3)).block, (ad.add (k * 3)).off + 2, none⟩ = some (.slice K2 x.ks.length k2)) := fun W hW =>
        ⟨(hW.cell (p := ⟨(ad.add (k * 3)).block, (ad.add (k * 3)).off + 1, none⟩) (by show (ad.add (k * 3)).block < _; rw [blk_add]; omega)).trans e1, (hW.cell (p := ⟨(ad.add (k * 3)).block, (ad.add (k * 3)).off + 2, none⟩) (by show (ad.add (k * 3)).block < _; rw [blk_add]; omega)).trans e2⟩
      generalize sizes (lens x.ks) = r at *
      obtain ⟨q, hq⟩ : ∃ q, q = 4 + x.vlen := ⟨_, rfl⟩
      rw [← hq] at hlx
      have hq9 : q ≤ 800004 := by omega
      have HQ := Lib.hid (show (4 : Int) + (x.v.length : Int) + (r : Int) = (q : Int) by omega)
      have hw1 : IntKind.i64.wrap (4 + (x.v.length : Int)) = 4 + (x.v.length : Int) := by rw [IntKind.wrap_i64]; omega
      have hw2 : IntKind.i64.wrap (4 + (x.v.length : Int) + (r : Int)) = 4 + (x.v.length : Int) + (r : Int) := by rw [IntKind.wrap_i64]; omega
      have hle0 := HLE.out k
      have hle1 := HLE.out (k + 1)
      have HNX := Lib.hid (fun (hi : k + 1 < (lens ns).length) => ra_next hlx hi)
      have HNL := Lib.hid (fun (hi : k + 1 = (lens ns).length) => ra_last hlx hi)
      have hg4 := gap_lt q
      have hG := fun W => rgap_any q (by omega) W
      clear hN hfx hmem hvl hve hx hlx hS hb hq
      generalize hra : ra (lens ns) k = a at *
      generalize hrb : ra (lens ns) (k + 1) = b at *
      have HRB := Lib.hid hrb
      clear hra hrb
      go_wp2_with fail
      go_region_held3 (fun W => W.cell? ⟨(ad.add (k * 3)).block, (ad.add (k * 3)).off + 1, none⟩ = some (.slice A2 x.v.length c2) ∧ W.cell? ⟨(ad.add (k * 3)).block, (ad.add (k * 3)).off + 2, none⟩ = some (.slice K2 x.ks.length k2))
        (first | exact KS.out _ (below_drew (Below.refl _ _)) | exact KS.out _ b5 | fail)
        (first | (go_at_call 112; (with_reducible refine (HS.out _ (below_drew (Below.refl _ _))).mono ?_); rintro e w5 ⟨rfl, b5'⟩; have b5 : Below wr.heap.size wr w5 := below_undrew b5'))
      rw [HQ.out]
      clear HQ hw1 hw2 e0 e1 e2
      have hw3 : IntKind.i64.wrap ((a : Int) + (q : Int)) = (a : Int) + (q : Int) := by rw [IntKind.wrap_i64]; omega
      have hw4 : IntKind.i64.wrap ((a : Int) + (q : Int) + (gap q : Int)) = (a : Int) + (q : Int) + (gap q : Int) := by rw [IntKind.wrap_i64]; omega
      have hB5 := hbel.trans (b5.mono hbel.size)
      by_cases hlast : k + 1 < ns.length
      · have hc1 : (k : Int) < (ns.length : Int) - 1 := by omega
        have HV := Lib.hid (HNX.out (by rw [HLL.out]; exact hlast))
        clear hlast
        go_wp2_with fail
        refine (hG _).mono ?_
        rintro e w6 ⟨rfl, rfl⟩
        go_wp2_with fail
        go_roundw
        case rel => exact ⟨k + 1, by omega, by go_num, by rw [HRB.out, HV.out]; go_num, hB5⟩
        case measure => simp [intOf]; omega
      · have hc1 : ¬ (k : Int) < (ns.length : Int) - 1 := by omega
        have HV := Lib.hid (HNL.out (by rw [HLL.out]; omega))
        clear hlast
        go_wp2_with fail
        go_roundw
        case rel => exact ⟨k + 1, by omega, by go_num, by rw [HRB.out, HV.out]; go_num, hB5⟩
        case measure => simp [intOf]; omega
    · obtain rfl : k = ns.length := by omega
      rw [HEND.out]
      go_wp2_with fail
      go_ret
      exact ⟨rfl, hbel⟩
theorem rsize_any (ns : List Nd) : (∀ n ∈ ns, Fine n) → RSizeOK ns := by
  refine Nds.ind (P := fun ns => (∀ n ∈ ns, Fine n) → RSizeOK ns) (fun ns ih hf => ?_) ns
  exact rsize_step ns fun n hn => ih n hn (hf n hn).kid

/-! ### Inside, wanted -/
theorem rinside_any (k : Int) (hk : 0 ≤ k ∧ k ≤ 4) (w : World) : Calls Tryz.prog 111 #[.int .i64 k] w fun e w' => e = .returned (.int .i64 (ins k).1) ∧ w = w' := by
  have h5 : k = 0 ∨ k = 1 ∨ k = 2 ∨ k = 3 ∨ k = 4 := by omega
  rcases h5 with rfl | rfl | rfl | rfl | rfl
  all_goals
    go_enter Tryz.func111, Tryz.ntmps111
    go_wp2_with fail
    go_ret
    exact ⟨rfl, rfl⟩
theorem ki_tab {c : Int} {F : Form} (h : F ∈ tab c) : 0 ≤ F.ki ∧ F.ki ≤ 4 := by
  have hp : (pT.all fun f => decide (0 ≤ f.ki) && decide (f.ki ≤ 4)) = true := by decide
  have hc : (cT.all fun f => decide (0 ≤ f.ki) && decide (f.ki ≤ 4)) = true := by decide
  have key : ∀ L : List Form, (L.all fun f => decide (0 ≤ f.ki) && decide (f.ki ≤ 4)) = true → F ∈ L → 0 ≤ F.ki ∧ F.ki ≤ 4 := fun L hL hm => by
    have := List.all_eq_true.1 hL F hm
    simpa using this
  unfold tab at h
  split at h
  · exact key _ hp h
  · split at h
    · exact key _ hc h
    · cases h
theorem ins_b0 (ks : List Nd) : insB 0 ks = ((ks.length : Int) == 0) := by
  unfold insB
  simp only [show (ins 0).2.1 = 0 by decide, show (ins 0).2.2 = 0 by decide]
  rw [Bool.eq_iff_iff]
  simp
theorem ins_b1 (ks : List Nd) : insB 1 ks = ((ks.length : Int) == 1) := by
  unfold insB
  simp only [show (ins 1).2.1 = 1 by decide, show (ins 1).2.2 = 1 by decide]
  rw [Bool.eq_iff_iff]
  simp
  omega
theorem ins_b2 (k : Int) (hk : k = 2 ∨ k = 3) (ks : List Nd) : insB k ks = (decide ((1 : Int) ≤ (ks.length : Int)) && decide ((ks.length : Int) ≤ 16384)) := by
  rcases hk with rfl | rfl
  · unfold insB
    simp only [show (ins 2).2.1 = 1 by decide, show (ins 2).2.2 = 16384 by decide]
    simp
  · unfold insB
    simp only [show (ins 3).2.1 = 1 by decide, show (ins 3).2.2 = 16384 by decide]
    simp
theorem ins_b4 (ks : List Nd) : insB 4 ks = (((ks.length : Int) == 1) && addr1 ks) := by
  unfold insB
  simp only [show (ins 4).2.1 = 1 by decide, show (ins 4).2.2 = 1 by decide]
  rw [Bool.eq_iff_iff]
  simp
  intro _
  omega
set_option maxRecDepth 100000 in
set_option maxHeartbeats 2000000 in
theorem rwanted_any (f : Form) (hki : 0 ≤ f.ki ∧ f.ki ≤ 4) (K : Option Addr) (k : Nat) (ks : List Nd) (w : World) (h : Nodes w w.heap.size K ks) (hn : ks.length ≤ 10000000) :
    Calls Tryz.prog 109 #[f.val, .slice K ks.length k] w fun e w' => e = .returned (.bool (insB f.ki ks)) ∧ Below w.heap.size w w' := by
  obtain ⟨cl, ty, nm, lo, hi, un, ki⟩ := f
  unfold Form.val
  simp only at hki ⊢
  have h5 : ki = 0 ∨ ki = 1 ∨ (ki = 2 ∨ ki = 3) ∨ ki = 4 := by omega
  rcases h5 with rfl | rfl | h23 | rfl
  · rw [ins_b0]
    go_enter Tryz.func109, Tryz.ntmps109
    go_wp2_with fail
    go_ret
    exact ⟨rfl, (Below.refl _ _).alloc (Nat.le_refl _) _⟩
  · rw [ins_b1]
    go_enter Tryz.func109, Tryz.ntmps109
    go_wp2_with fail
    go_ret
    exact ⟨rfl, (Below.refl _ _).alloc (Nat.le_refl _) _⟩
  · rw [ins_b2 ki h23]
    by_cases c1 : (1 : Int) ≤ (ks.length : Int)
    · have hd : decide ((1 : Int) ≤ (ks.length : Int)) = true := decide_eq_true c1
      rcases h23 with rfl | rfl
      all_goals
        go_enter Tryz.func109, Tryz.ntmps109
        go_wp2_with fail
        go_ret
        exact ⟨ret_bool (by first | (simp; done) | simp [c1]), (Below.refl _ _).alloc (Nat.le_refl _) _⟩
    · have hd : decide ((1 : Int) ≤ (ks.length : Int)) = false := decide_eq_false c1
      rcases h23 with rfl | rfl
      all_goals
        go_enter Tryz.func109, Tryz.ntmps109
        go_wp2_with fail
        go_ret
        exact ⟨ret_bool (by first | (simp; done) | simp [c1]), (Below.refl _ _).alloc (Nat.le_refl _) _⟩
  · rw [ins_b4]
    by_cases c1 : ks.length = 1
    · have hq1 : ((ks.length : Int) == 1) = true := by rw [c1]; rfl
      have hk0 : 0 < ks.length := by omega
      obtain ⟨ad, A', c', K', k', n, rfl, hb, hn', hc0, hc1, hc2, hN⟩ := h.at_ hk0
      have HA : Hid (addr1 ks = (decide (n.t = 5) || decide (n.t = 6))) := by
        match ks, hn'.out with
        | x :: ks, hx => simp only [List.getElem?_cons_zero, Option.some.injEq] at hx; subst hx; rfl
      have hz : ad.add (0 * 3) = ad := by simp [Addr.add]
      rw [hz] at hc0
      rw [hq1, HA.out]
      have hl0 : (0 : Int) < (ks.length : Int) := by omega
      clear hc1 hc2 c1 HA
      by_cases t5 : n.t = 5
      · have hq : ((n.t.toNat : Int) == 5) = true := by rw [t5]; rfl
        rw [decide_eq_true t5]
        clear t5
        go_enter Tryz.func109, Tryz.ntmps109
        go_wp2_with fail
        go_ret
        exact ⟨by simp, (Below.refl _ _).alloc (Nat.le_refl _) _⟩
      · have hq : ((n.t.toNat : Int) == 5) = false := by
          rw [beq_eq_false_iff_ne]
          intro e
          exact t5 (UInt16.toNat_inj.1 (by show n.t.toNat = 5; omega))
        rw [decide_eq_false t5]
        have HE : Hid (((n.t.toNat : Int) == 6) = decide (n.t = 6)) := by
          by_cases t6 : n.t = 6
          · rw [decide_eq_true t6, t6]; rfl
          · rw [decide_eq_false t6, Hid, beq_eq_false_iff_ne]
            intro e
            exact t6 (UInt16.toNat_inj.1 (by show n.t.toNat = 6; omega))
        clear t5
        go_enter Tryz.func109, Tryz.ntmps109
        go_wp2_with fail
        go_ret
        exact ⟨ret_bool (by rw [HE.out]; rfl), (Below.refl _ _).alloc (Nat.le_refl _) _⟩
    · have hq1 : ((ks.length : Int) == 1) = false := by rw [beq_eq_false_iff_ne]; omega
      rw [hq1]
      clear c1
      go_enter Tryz.func109, Tryz.ntmps109
      go_wp2_with fail
      go_ret
      exact ⟨rfl, (Below.refl _ _).alloc (Nat.le_refl _) _⟩

/-! ### Counted -/
def rcB (v : List UInt8) : Bool := decide (4 ≤ v.length) && decide (2 * numOf (v.take 4) = v.length - 4)
theorem rcB_eq {v : List UInt8} (h : v.length % 2 = 0) : rcB v = cntB 2 2 v := by
  unfold rcB cntB
  by_cases h4 : 4 ≤ v.length
  · simp only [h4, decide_true, Bool.true_and, Bool.and_true, Bool.not_true, Bool.false_or]
    rw [decide_eq_decide]
    omega
  · simp [h4]
theorem rcounted_any (A : Option Addr) (c B : Nat) (v : List UInt8) (w : World) (h : Lies w B A (v.map bv)) (hn : v.length ≤ 10000000) :
    Calls Tryz.prog 110 #[.slice A v.length c] w fun e w' => e = .returned (.bool (rcB v)) ∧ w = w' := by
  by_cases h4 : 4 ≤ v.length
  · have hN := rnumber_yes A c B v 0 4 w h (by omega) rfl (by omega)
    have hlt := numOf_lt ((v.drop 0).take 4)
    have R : Hid (rcB v = (2 * (numOf ((v.drop 0).take 4) : Int) == (v.length : Int) - 4)) := by
      unfold Hid rcB
      rw [List.drop_zero, decide_eq_true h4, Bool.true_and, Bool.eq_iff_iff]
      simp
      omega
    generalize numOf ((v.drop 0).take 4) = x at *
    have hw1 : IntKind.i64.wrap (2 * (x : Int)) = 2 * (x : Int) := by rw [IntKind.wrap_i64]; omega
    rw [R.out]
    clear h4 R
    go_enter Tryz.func110, Tryz.ntmps110
    go_wp2_with fail
    refine hN.mono ?_
    rintro e w1 ⟨rfl, rfl⟩
    go_wp2_with fail
    go_ret
    exact ⟨rfl, rfl⟩
  · have hN := rnumber_no A v.length c 0 4 w (by omega) (by omega) (by rintro ⟨_, h9⟩; omega)
    have R : Hid (rcB v = ((0 : Int) == (v.length : Int) - 4)) := by
      unfold Hid rcB
      rw [decide_eq_false h4, Bool.false_and, eq_comm, beq_eq_false_iff_ne]
      omega
    rw [R.out]
    clear h4 R
    go_enter Tryz.func110, Tryz.ntmps110
    go_wp2_with fail
    refine hN.mono ?_
    rintro e w1 ⟨rfl, rfl⟩
    go_wp2_with fail
    go_ret
    exact ⟨rfl, rfl⟩
end Go.Proofs.YteknmgmdmjmnmaaGreatDoor



namespace Go.Proofs.YteknmgmdmjmnmaaGreatDoor
open Go.RowKit

theorem rV_eq (r : Option Form) : rV r = (r.getD zeroF).val := by cases r <;> rfl
theorem cl_tab {c : Int} {F : Form} (h : F ∈ tab c) : F.cl = c := by
  have hp : (pT.all fun f => decide (f.cl = 1)) = true := by decide
  have hc : (cT.all fun f => decide (f.cl = 2)) = true := by decide
  unfold tab at h
  split at h
  · rename_i hh
    have := List.all_eq_true.1 hp F h
    simp at this hh
    omega
  · split at h
    · rename_i hh
      have := List.all_eq_true.1 hc F h
      simp at this hh
      omega
    · cases h
theorem look_two : ∃ F, look (tab 2) 2 = some F ∧ F.lo = 6 ∧ F.un = 2 ∧ F.ki = 0 := ⟨_, rfl, by decide, by decide, by decide⟩
/-- the class inside a form that has nodes inside -/
theorem ins_two {ki : Int} (hk : 0 ≤ ki ∧ ki ≤ 4) {ks : List Nd} (h : insB ki ks = true) : ks = [] ∨ (ins ki).1 = 1 ∨ (ins ki).1 = 2 := by
  have h5 : ki = 0 ∨ ki = 1 ∨ ki = 2 ∨ ki = 3 ∨ ki = 4 := by omega
  rcases h5 with rfl | rfl | rfl | rfl | rfl
  · rw [ins_b0] at h
    left
    have h2 : (ks.length : Int) = 0 := by simpa using h
    exact List.eq_nil_of_length_eq_zero (by omega)
  · right; left; decide
  · right; left; decide
  · right; right; decide
  · right; left; decide
/-- the two variables of a check: the node and its form -/
structure RBox2 (W : World) (g0 g1 : Nat) (n : Nd) (A : Option Addr) (cc : Nat) (K : Option Addr) (kk : Nat) (F : Form) : Prop where
  nd : Whole W g0 51 #[hv n.t, .slice A n.v.length cc, .slice K n.ks.length kk]
  fo : Whole W g1 168 #[.int .i64 F.cl, hv F.ty, .string F.nm, .int .i64 F.lo, .int .i64 F.hi, .int .i64 F.un, .int .i64 F.ki]
section
variable {W W' : World} {g0 g1 : Nat} {n : Nd} {A : Option Addr} {cc : Nat} {K : Option Addr} {kk : Nat} {F : Form}
theorem RBox2.below (h : RBox2 W g0 g1 n A cc K kk F) (hb : Below W.heap.size W W') : RBox2 W' g0 g1 n A cc K kk F := ⟨h.nd.below hb h.nd.lt, h.fo.below hb h.fo.lt⟩
theorem RBox2.c0 (h : RBox2 W g0 g1 n A cc K kk F) : W.cell? ⟨g0, 0, none⟩ = some (hv n.t) := by rw [h.nd.cell]; rfl
theorem RBox2.c1 (h : RBox2 W g0 g1 n A cc K kk F) : W.cell? ⟨g0, 1, none⟩ = some (.slice A n.v.length cc) := by rw [h.nd.cell]; rfl
theorem RBox2.c2 (h : RBox2 W g0 g1 n A cc K kk F) : W.cell? ⟨g0, 2, none⟩ = some (.slice K n.ks.length kk) := by rw [h.nd.cell]; rfl
theorem RBox2.k0 (h : RBox2 W g0 g1 n A cc K kk F) : W.cell? ⟨g1, 0, none⟩ = some (.int .i64 F.cl) := by rw [h.fo.cell]; rfl
theorem RBox2.k1 (h : RBox2 W g0 g1 n A cc K kk F) : W.cell? ⟨g1, 1, none⟩ = some (hv F.ty) := by rw [h.fo.cell]; rfl
theorem RBox2.k2 (h : RBox2 W g0 g1 n A cc K kk F) : W.cell? ⟨g1, 2, none⟩ = some (.string F.nm) := by rw [h.fo.cell]; rfl
theorem RBox2.k3 (h : RBox2 W g0 g1 n A cc K kk F) : W.cell? ⟨g1, 3, none⟩ = some (.int .i64 F.lo) := by rw [h.fo.cell]; rfl
theorem RBox2.k4 (h : RBox2 W g0 g1 n A cc K kk F) : W.cell? ⟨g1, 4, none⟩ = some (.int .i64 F.hi) := by rw [h.fo.cell]; rfl
theorem RBox2.k5 (h : RBox2 W g0 g1 n A cc K kk F) : W.cell? ⟨g1, 5, none⟩ = some (.int .i64 F.un) := by rw [h.fo.cell]; rfl
theorem RBox2.k6 (h : RBox2 W g0 g1 n A cc K kk F) : W.cell? ⟨g1, 6, none⟩ = some (.int .i64 F.ki) := by rw [h.fo.cell]; rfl
end
def RCheckOK (f : Nat) : Prop := ∀ (c : Int) (n : Nd) (d : Nat) (A : Option Addr) (cc : Nat) (K : Option Addr) (kk : Nat) (w : World), d + f = 5 → (c = 1 ∨ c = 2) → Node w w.heap.size A cc K kk n → Fine n →
  Calls Tryz.prog 69 #[.int .i64 c, ndV n A cc K kk, .int .i64 (d : Int)] w fun e w' => e = .returned (.int .i64 (chk f c n : Nat)) ∧ Below w.heap.size w w'
theorem rcheck_zero : RCheckOK 0 := by
  intro c n d A cc K kk w hd hc hN hf
  obtain rfl : d = 5 := by omega
  unfold ndV
  go_enter Tryz.func69, Tryz.ntmps69
  go_wp2_with fail
  go_ret
  exact ⟨rfl, (Below.refl _ _).alloc (Nat.le_refl _) _⟩

section
variable (f : Nat) (c : Int) (n : Nd) (d : Nat) (A : Option Addr) (cc : Nat) (K : Option Addr) (kk : Nat) (w : World) (F : Form) (code : Nat)
set_option maxRecDepth 100000 in
set_option maxHeartbeats 4000000 in
theorem rc_none7 (hO : ∀ W, Calls Tryz.prog 107 #[.int .i64 c, hv n.t] W fun e w' => e = .returned (.agg #[.int .i64 F.cl, hv F.ty, .string F.nm, .int .i64 F.lo, .int .i64 F.hi, .int .i64 F.un, .int .i64 F.ki]) ∧ Below W.heap.size W w')
    (hd4 : (d : Int) ≤ 4) (_hN : Node w w.heap.size A cc K kk n)
    (h0 : (F.cl == 0) = true) (hk : (0 : Int) < (n.ks.length : Int)) (hc : code = 7) :
    Calls Tryz.prog 69 #[.int .i64 c, .agg #[hv n.t, .slice A n.v.length cc, .slice K n.ks.length kk], .int .i64 (d : Int)] w fun e w' => e = .returned (.int .i64 (code : Nat)) ∧ Below w.heap.size w w' := by
  subst hc
  have b0 : Below w.heap.size w (w.alloc (.cells #[hv n.t, .slice A n.v.length cc, .slice K n.ks.length kk] 51)) := (Below.refl _ _).alloc (Nat.le_refl _) _
  have hW0 := Whole.new w 51 #[hv n.t, .slice A n.v.length cc, .slice K n.ks.length kk]
  go_enter Tryz.func69, Tryz.ntmps69
  go_wp2_with fail
  refine (hO _).mono ?_
  rintro e w1 ⟨rfl, b1⟩
  have hb1 := b0.trans (b1.mono (by simp))
  have hB1 : RBox2 (w1.alloc (.cells #[.int .i64 F.cl, hv F.ty, .string F.nm, .int .i64 F.lo, .int .i64 F.hi, .int .i64 F.un, .int .i64 F.ki] 168)) w.heap.size w1.heap.size n A cc K kk F := ⟨(hW0.below b1 (by simp)).alloc _, Whole.new _ _ _⟩
  have b1' := hb1.alloc hb1.size (.cells #[.int .i64 F.cl, hv F.ty, .string F.nm, .int .i64 F.lo, .int .i64 F.hi, .int .i64 F.un, .int .i64 F.ki] 168)
  have z0 := hB1.c0
  have z1 := hB1.c1
  have z2 := hB1.c2
  have y0 := hB1.k0
  have y1 := hB1.k1
  have y2 := hB1.k2
  have y3 := hB1.k3
  have y4 := hB1.k4
  have y5 := hB1.k5
  have y6 := hB1.k6
  generalize hg1 : w1.heap.size = g1 at *
  go_upto_region 4 with (refine wpList_new_form rfl 168 _ _ rfl w1 _ _ rfl (by rw [hg1]; rfl) rfl (by kernel_rfl) rfl ?_)
  generalize w1.alloc (.cells #[.int .i64 F.cl, hv F.ty, .string F.nm, .int .i64 F.lo, .int .i64 F.hi, .int .i64 F.un, .int .i64 F.ki] 168) = w2 at *
  clear hg1 b1 hb1 w1
  go_wp2_with fail
  go_ret
  exact ⟨rfl, b1'⟩
set_option maxRecDepth 100000 in
set_option maxHeartbeats 4000000 in
theorem rc_fits7 (hO : ∀ W, Calls Tryz.prog 107 #[.int .i64 c, hv n.t] W fun e w' => e = .returned (.agg #[.int .i64 F.cl, hv F.ty, .string F.nm, .int .i64 F.lo, .int .i64 F.hi, .int .i64 F.un, .int .i64 F.ki]) ∧ Below W.heap.size W w')
    (hd4 : (d : Int) ≤ 4) (_hN : Node w w.heap.size A cc K kk n)
    (hFt : ∀ W, Calls Tryz.prog 108 #[.agg #[.int .i64 F.cl, hv F.ty, .string F.nm, .int .i64 F.lo, .int .i64 F.hi, .int .i64 F.un, .int .i64 F.ki], .int .i64 (n.v.length : Int)] W fun e w' => e = .returned (.bool false) ∧ Below W.heap.size W w') (h0 : (F.cl == 0) = false) (h1 : (0 : Int) < F.cl) (hc : code = 7) :
    Calls Tryz.prog 69 #[.int .i64 c, .agg #[hv n.t, .slice A n.v.length cc, .slice K n.ks.length kk], .int .i64 (d : Int)] w fun e w' => e = .returned (.int .i64 (code : Nat)) ∧ Below w.heap.size w w' := by
  subst hc
  have b0 : Below w.heap.size w (w.alloc (.cells #[hv n.t, .slice A n.v.length cc, .slice K n.ks.length kk] 51)) := (Below.refl _ _).alloc (Nat.le_refl _) _
  have hW0 := Whole.new w 51 #[hv n.t, .slice A n.v.length cc, .slice K n.ks.length kk]
  go_enter Tryz.func69, Tryz.ntmps69
  go_wp2_with fail
  refine (hO _).mono ?_
  rintro e w1 ⟨rfl, b1⟩
  have hb1 := b0.trans (b1.mono (by simp))
  have hB1 : RBox2 (w1.alloc (.cells #[.int .i64 F.cl, hv F.ty, .string F.nm, .int .i64 F.lo, .int .i64 F.hi, .int .i64 F.un, .int .i64 F.ki] 168)) w.heap.size w1.heap.size n A cc K kk F := ⟨(hW0.below b1 (by simp)).alloc _, Whole.new _ _ _⟩
  have b1' := hb1.alloc hb1.size (.cells #[.int .i64 F.cl, hv F.ty, .string F.nm, .int .i64 F.lo, .int .i64 F.hi, .int .i64 F.un, .int .i64 F.ki] 168)
  have z0 := hB1.c0
  have z1 := hB1.c1
  have z2 := hB1.c2
  have y0 := hB1.k0
  have y1 := hB1.k1
  have y2 := hB1.k2
  have y3 := hB1.k3
  have y4 := hB1.k4
  have y5 := hB1.k5
  have y6 := hB1.k6
  generalize hg1 : w1.heap.size = g1 at *
  go_upto_region 4 with (refine wpList_new_form rfl 168 _ _ rfl w1 _ _ rfl (by rw [hg1]; rfl) rfl (by kernel_rfl) rfl ?_)
  generalize w1.alloc (.cells #[.int .i64 F.cl, hv F.ty, .string F.nm, .int .i64 F.lo, .int .i64 F.hi, .int .i64 F.un, .int .i64 F.ki] 168) = w2 at *
  clear hg1 b1 hb1 w1
  go_wp2_with fail
  refine (hFt _).mono ?_
  rintro e w3 ⟨rfl, b3⟩
  go_wp2_with fail
  go_ret
  exact ⟨rfl, b1'.trans (b3.mono b1'.size)⟩
set_option maxRecDepth 100000 in
set_option maxHeartbeats 4000000 in
theorem rc_want7 (hO : ∀ W, Calls Tryz.prog 107 #[.int .i64 c, hv n.t] W fun e w' => e = .returned (.agg #[.int .i64 F.cl, hv F.ty, .string F.nm, .int .i64 F.lo, .int .i64 F.hi, .int .i64 F.un, .int .i64 F.ki]) ∧ Below W.heap.size W w')
    (hd4 : (d : Int) ≤ 4) (_hN : Node w w.heap.size A cc K kk n)
    (hFt : ∀ W, Calls Tryz.prog 108 #[.agg #[.int .i64 F.cl, hv F.ty, .string F.nm, .int .i64 F.lo, .int .i64 F.hi, .int .i64 F.un, .int .i64 F.ki], .int .i64 (n.v.length : Int)] W fun e w' => e = .returned (.bool true) ∧ Below W.heap.size W w') (hWt : ∀ W, Below w.heap.size w W → Calls Tryz.prog 109 #[.agg #[.int .i64 F.cl, hv F.ty, .string F.nm, .int .i64 F.lo, .int .i64 F.hi, .int .i64 F.un, .int .i64 F.ki], .slice K n.ks.length kk] W fun e w' => e = .returned (.bool false) ∧ Below W.heap.size W w') (h0 : (F.cl == 0) = false) (h1 : (0 : Int) < F.cl) (hc : code = 7) :
    Calls Tryz.prog 69 #[.int .i64 c, .agg #[hv n.t, .slice A n.v.length cc, .slice K n.ks.length kk], .int .i64 (d : Int)] w fun e w' => e = .returned (.int .i64 (code : Nat)) ∧ Below w.heap.size w w' := by
  subst hc
  have b0 : Below w.heap.size w (w.alloc (.cells #[hv n.t, .slice A n.v.length cc, .slice K n.ks.length kk] 51)) := (Below.refl _ _).alloc (Nat.le_refl _) _
  have hW0 := Whole.new w 51 #[hv n.t, .slice A n.v.length cc, .slice K n.ks.length kk]
  go_enter Tryz.func69, Tryz.ntmps69
  go_wp2_with fail
  refine (hO _).mono ?_
  rintro e w1 ⟨rfl, b1⟩
  have hb1 := b0.trans (b1.mono (by simp))
  have hB1 : RBox2 (w1.alloc (.cells #[.int .i64 F.cl, hv F.ty, .string F.nm, .int .i64 F.lo, .int .i64 F.hi, .int .i64 F.un, .int .i64 F.ki] 168)) w.heap.size w1.heap.size n A cc K kk F := ⟨(hW0.below b1 (by simp)).alloc _, Whole.new _ _ _⟩
  have b1' := hb1.alloc hb1.size (.cells #[.int .i64 F.cl, hv F.ty, .string F.nm, .int .i64 F.lo, .int .i64 F.hi, .int .i64 F.un, .int .i64 F.ki] 168)
  have z0 := hB1.c0
  have z1 := hB1.c1
  have z2 := hB1.c2
  have y0 := hB1.k0
  have y1 := hB1.k1
  have y2 := hB1.k2
  have y3 := hB1.k3
  have y4 := hB1.k4
  have y5 := hB1.k5
  have y6 := hB1.k6
  generalize hg1 : w1.heap.size = g1 at *
  go_upto_region 4 with (refine wpList_new_form rfl 168 _ _ rfl w1 _ _ rfl (by rw [hg1]; rfl) rfl (by kernel_rfl) rfl ?_)
  generalize w1.alloc (.cells #[.int .i64 F.cl, hv F.ty, .string F.nm, .int .i64 F.lo, .int .i64 F.hi, .int .i64 F.un, .int .i64 F.ki] 168) = w2 at *
  clear hg1 b1 hb1 w1
  go_wp2_with fail
  refine (hFt _).mono ?_
  rintro e w3 ⟨rfl, b3⟩
  have hB3 := hB1.below b3
  have hb3 := b1'.trans (b3.mono b1'.size)
  clear z0 z1 z2 y0 y1 y2 y3 y4 y5 y6
  have z0 := hB3.c0
  have z1 := hB3.c1
  have z2 := hB3.c2
  have y0 := hB3.k0
  have y1 := hB3.k1
  have y2 := hB3.k2
  have y3 := hB3.k3
  have y4 := hB3.k4
  have y5 := hB3.k5
  have y6 := hB3.k6
  go_wp2_with fail
  refine (hWt _ hb3).mono ?_
  rintro e w4 ⟨rfl, b4⟩
  go_wp2_with fail
  go_ret
  exact ⟨rfl, hb3.trans (b4.mono hb3.size)⟩
set_option maxRecDepth 100000 in
set_option maxHeartbeats 4000000 in
theorem rc_count8 (hO : ∀ W, Calls Tryz.prog 107 #[.int .i64 c, hv n.t] W fun e w' => e = .returned (.agg #[.int .i64 F.cl, hv F.ty, .string F.nm, .int .i64 F.lo, .int .i64 F.hi, .int .i64 F.un, .int .i64 F.ki]) ∧ Below W.heap.size W w')
    (hd4 : (d : Int) ≤ 4) (_hN : Node w w.heap.size A cc K kk n)
    (hFt : ∀ W, Calls Tryz.prog 108 #[.agg #[.int .i64 F.cl, hv F.ty, .string F.nm, .int .i64 F.lo, .int .i64 F.hi, .int .i64 F.un, .int .i64 F.ki], .int .i64 (n.v.length : Int)] W fun e w' => e = .returned (.bool true) ∧ Below W.heap.size W w') (hWt : ∀ W, Below w.heap.size w W → Calls Tryz.prog 109 #[.agg #[.int .i64 F.cl, hv F.ty, .string F.nm, .int .i64 F.lo, .int .i64 F.hi, .int .i64 F.un, .int .i64 F.ki], .slice K n.ks.length kk] W fun e w' => e = .returned (.bool true) ∧ Below W.heap.size W w') (hCt : ∀ W, Below w.heap.size w W → Calls Tryz.prog 110 #[.slice A n.v.length cc] W fun e w' => e = .returned (.bool false) ∧ W = w') (h0 : (F.cl == 0) = false) (h1 : (0 : Int) < F.cl) (hq1 : (c == 2) = true) (hq2 : ((n.t.toNat : Int) == 2) = true) (hc : code = 8) :
    Calls Tryz.prog 69 #[.int .i64 c, .agg #[hv n.t, .slice A n.v.length cc, .slice K n.ks.length kk], .int .i64 (d : Int)] w fun e w' => e = .returned (.int .i64 (code : Nat)) ∧ Below w.heap.size w w' := by
  subst hc
  have b0 : Below w.heap.size w (w.alloc (.cells #[hv n.t, .slice A n.v.length cc, .slice K n.ks.length kk] 51)) := (Below.refl _ _).alloc (Nat.le_refl _) _
  have hW0 := Whole.new w 51 #[hv n.t, .slice A n.v.length cc, .slice K n.ks.length kk]
  go_enter Tryz.func69, Tryz.ntmps69
  go_wp2_with fail
  refine (hO _).mono ?_
  rintro e w1 ⟨rfl, b1⟩
  have hb1 := b0.trans (b1.mono (by simp))
  have hB1 : RBox2 (w1.alloc (.cells #[.int .i64 F.cl, hv F.ty, .string F.nm, .int .i64 F.lo, .int .i64 F.hi, .int .i64 F.un, .int .i64 F.ki] 168)) w.heap.size w1.heap.size n A cc K kk F := ⟨(hW0.below b1 (by simp)).alloc _, Whole.new _ _ _⟩
  have b1' := hb1.alloc hb1.size (.cells #[.int .i64 F.cl, hv F.ty, .string F.nm, .int .i64 F.lo, .int .i64 F.hi, .int .i64 F.un, .int .i64 F.ki] 168)
  have z0 := hB1.c0
  have z1 := hB1.c1
  have z2 := hB1.c2
  have y0 := hB1.k0
  have y1 := hB1.k1
  have y2 := hB1.k2
  have y3 := hB1.k3
  have y4 := hB1.k4
  have y5 := hB1.k5
  have y6 := hB1.k6
  generalize hg1 : w1.heap.size = g1 at *
  go_upto_region 4 with (refine wpList_new_form rfl 168 _ _ rfl w1 _ _ rfl (by rw [hg1]; rfl) rfl (by kernel_rfl) rfl ?_)
  generalize w1.alloc (.cells #[.int .i64 F.cl, hv F.ty, .string F.nm, .int .i64 F.lo, .int .i64 F.hi, .int .i64 F.un, .int .i64 F.ki] 168) = w2 at *
  clear hg1 b1 hb1 w1
  go_wp2_with fail
  refine (hFt _).mono ?_
  rintro e w3 ⟨rfl, b3⟩
  have hB3 := hB1.below b3
  have hb3 := b1'.trans (b3.mono b1'.size)
  clear z0 z1 z2 y0 y1 y2 y3 y4 y5 y6
  have z0 := hB3.c0
  have z1 := hB3.c1
  have z2 := hB3.c2
  have y0 := hB3.k0
  have y1 := hB3.k1
  have y2 := hB3.k2
  have y3 := hB3.k3
  have y4 := hB3.k4
  have y5 := hB3.k5
  have y6 := hB3.k6
  go_wp2_with fail
  refine (hWt _ hb3).mono ?_
  rintro e w4 ⟨rfl, b4⟩
  have hB4 := hB3.below b4
  have hb4 := hb3.trans (b4.mono hb3.size)
  clear z0 z1 z2 y0 y1 y2 y3 y4 y5 y6
  have z0 := hB4.c0
  have z1 := hB4.c1
  have z2 := hB4.c2
  have y0 := hB4.k0
  have y1 := hB4.k1
  have y2 := hB4.k2
  have y3 := hB4.k3
  have y4 := hB4.k4
  have y5 := hB4.k5
  have y6 := hB4.k6
  go_wp2_with fail
  refine (hCt _ hb4).mono ?_
  rintro e w5 ⟨rfl, rfl⟩
  go_wp2_with fail
  go_ret
  exact ⟨rfl, hb4⟩
set_option maxRecDepth 100000 in
set_option maxHeartbeats 4000000 in
theorem rc_none_a (hO : ∀ W, Calls Tryz.prog 107 #[.int .i64 c, hv n.t] W fun e w' => e = .returned (.agg #[.int .i64 F.cl, hv F.ty, .string F.nm, .int .i64 F.lo, .int .i64 F.hi, .int .i64 F.un, .int .i64 F.ki]) ∧ Below W.heap.size W w')
    (hd4 : (d : Int) ≤ 4) (hN : Node w w.heap.size A cc K kk n)
    (ih : RCheckOK f) (hd : d + (f + 1) = 5) (hf : Fine n) (c1 : Int) (_hIn : ∀ W, Calls Tryz.prog 111 #[.int .i64 F.ki] W fun e w' => e = .returned (.int .i64 c1) ∧ W = w') (hc1 : 0 < n.ks.length → c1 = 1 ∨ c1 = 2)
    (hcode : code = if fst0 (n.ks.map (chk f c1)) ≠ 0 then fst0 (n.ks.map (chk f c1)) else if 65531 < n.vlen then 4 else 0)
    (h0 : (F.cl == 0) = true) (h1 : ¬ (0 : Int) < F.cl) (hk0 : ¬ (0 : Int) < (n.ks.length : Int)) (hq1 : (c == 2) = false) :
    Calls Tryz.prog 69 #[.int .i64 c, .agg #[hv n.t, .slice A n.v.length cc, .slice K n.ks.length kk], .int .i64 (d : Int)] w fun e w' => e = .returned (.int .i64 (code : Nat)) ∧ Below w.heap.size w w' := by
  have HK := Lib.hid ih
  have HD := Lib.hid hd
  have HF := Lib.hid hf
  have HC1 := Lib.hid hc1
  have HCC := Lib.hid hcode
  have HNK := Lib.hid hN.kids
  have HN := Lib.hid hN
  clear ih hd hf hc1 hcode hN
  have b0 : Below w.heap.size w (w.alloc (.cells #[hv n.t, .slice A n.v.length cc, .slice K n.ks.length kk] 51)) := (Below.refl _ _).alloc (Nat.le_refl _) _
  have hW0 := Whole.new w 51 #[hv n.t, .slice A n.v.length cc, .slice K n.ks.length kk]
  go_enter Tryz.func69, Tryz.ntmps69
  go_wp2_with fail
  refine (hO _).mono ?_
  rintro e w1 ⟨rfl, b1⟩
  have hb1 := b0.trans (b1.mono (by simp))
  have hB1 : RBox2 (w1.alloc (.cells #[.int .i64 F.cl, hv F.ty, .string F.nm, .int .i64 F.lo, .int .i64 F.hi, .int .i64 F.un, .int .i64 F.ki] 168)) w.heap.size w1.heap.size n A cc K kk F := ⟨(hW0.below b1 (by simp)).alloc _, Whole.new _ _ _⟩
  have b1' := hb1.alloc hb1.size (.cells #[.int .i64 F.cl, hv F.ty, .string F.nm, .int .i64 F.lo, .int .i64 F.hi, .int .i64 F.un, .int .i64 F.ki] 168)
  have z0 := hB1.c0
  have z1 := hB1.c1
  have z2 := hB1.c2
  have y0 := hB1.k0
  have y1 := hB1.k1
  have y2 := hB1.k2
  have y3 := hB1.k3
  have y4 := hB1.k4
  have y5 := hB1.k5
  have y6 := hB1.k6
  generalize hg1 : w1.heap.size = g1 at *
  go_upto_region 4 with (refine wpList_new_form rfl 168 _ _ rfl w1 _ _ rfl (by rw [hg1]; rfl) rfl (by kernel_rfl) rfl ?_)
  generalize w1.alloc (.cells #[.int .i64 F.cl, hv F.ty, .string F.nm, .int .i64 F.lo, .int .i64 F.hi, .int .i64 F.un, .int .i64 F.ki] 168) = w2 at *
  clear hg1 b1 hb1 w1
  go_wp2_with fail
  go_loopw [8] (fun i wr => ∃ k : Nat, k ≤ n.ks.length ∧ i = .int .i64 k ∧ Hid (∀ (j y : Nat), j < k → (n.ks.map (chk f c1))[j]? = some y → y = 0) ∧ Below w2.heap.size w2 wr) (fun i _ => n.ks.length - (intOf i).toNat)
  case atStart => exact ⟨0, Nat.zero_le _, rfl, fun j y hj _ => by omega, Below.refl _ _⟩
  case round =>
    obtain ⟨k, hk, rfl, hz, hbel⟩ := hrel
    have hbw := b1'.trans (hbel.mono b1'.size)
    have hBr := hB1.below hbel
    clear z0 z1 z2 y0 y1 y2 y3 y4 y5 y6
    have z2 := hBr.c2
    have y6 := hBr.k6
    have hkl := HF.out.kl
    by_cases hlt : k < n.ks.length
    · exact absurd hlt (by omega)
    · obtain rfl : k = n.ks.length := by omega
      have hcc := HCC.out
      rw [fst0_none (by intro j y hj hy; exact hz.out j y (by simpa using hj) hy), if_neg (by simp)] at hcc
      have hb0' : Below wr.heap.size wr (wr.alloc (.cells #[hv n.t, .slice A n.v.length cc, .slice K n.ks.length kk] 51)) := (Below.refl _ _).alloc (Nat.le_refl _) _
      have hL1 := ((HN.out.on hbw).list1 51)
      have e1 : sizes (lens [n]) = 4 + n.vlen := by rw [lens, lens, sizes_one]
      have hS := rsize_any [n] (by intro m hm; rw [List.mem_singleton.1 hm]; exact HF.out) (some ⟨wr.heap.size, 0, none⟩) 1 (wr.alloc (.cells #[hv n.t, .slice A n.v.length cc, .slice K n.ks.length kk] 51)) (hL1.more (by simp)) (by simp) (by intro m hm; rw [List.mem_singleton.1 hm]; exact HF.out) (by rw [e1]; have := HF.out.vl; omega)
      rw [e1] at hS
      have hS' := hS.mono (R' := fun e w' => e = .returned (.int .i64 ((4 + n.vlen : Nat) : Int)) ∧ Below wr.heap.size wr w') (fun e w' h => ⟨h.1, hb0'.trans (h.2.mono (by simp))⟩)
      have r0 := hBr.c0
      have r1 := hBr.c1
      simp only [List.length_singleton] at hS'
      clear hS e1 y6 hL1
      by_cases hv4 : 65531 < n.vlen
      · rw [if_pos hv4] at hcc
        have HR := Lib.hid hcc
        have hi4 : (65535 : Int) < ((4 + n.vlen : Nat) : Int) := by omega
        clear hcc
        generalize 4 + n.vlen = y at *
        go_wp2_with fail
        refine hS'.mono ?_
        rintro e w6 ⟨rfl, b6⟩
        go_wp2_with fail
        go_ret
        rw [HR.out]
        exact ⟨rfl, hbw.trans (b6.mono hbw.size)⟩
      · rw [if_neg hv4] at hcc
        have HR := Lib.hid hcc
        have hi4 : ¬ (65535 : Int) < ((4 + n.vlen : Nat) : Int) := by omega
        clear hcc
        generalize 4 + n.vlen = y at *
        go_wp2_with fail
        refine hS'.mono ?_
        rintro e w6 ⟨rfl, b6⟩
        go_wp2_with fail
        go_ret
        rw [HR.out]
        exact ⟨rfl, hbw.trans (b6.mono hbw.size)⟩
set_option maxRecDepth 100000 in
set_option maxHeartbeats 4000000 in
theorem rc_some_a (hO : ∀ W, Calls Tryz.prog 107 #[.int .i64 c, hv n.t] W fun e w' => e = .returned (.agg #[.int .i64 F.cl, hv F.ty, .string F.nm, .int .i64 F.lo, .int .i64 F.hi, .int .i64 F.un, .int .i64 F.ki]) ∧ Below W.heap.size W w')
    (hd4 : (d : Int) ≤ 4) (hN : Node w w.heap.size A cc K kk n)
    (ih : RCheckOK f) (hd : d + (f + 1) = 5) (hf : Fine n) (c1 : Int) (hIn : ∀ W, Calls Tryz.prog 111 #[.int .i64 F.ki] W fun e w' => e = .returned (.int .i64 c1) ∧ W = w') (hc1 : 0 < n.ks.length → c1 = 1 ∨ c1 = 2)
    (hcode : code = if fst0 (n.ks.map (chk f c1)) ≠ 0 then fst0 (n.ks.map (chk f c1)) else if 65531 < n.vlen then 4 else 0)
    (hFt : ∀ W, Calls Tryz.prog 108 #[.agg #[.int .i64 F.cl, hv F.ty, .string F.nm, .int .i64 F.lo, .int .i64 F.hi, .int .i64 F.un, .int .i64 F.ki], .int .i64 (n.v.length : Int)] W fun e w' => e = .returned (.bool true) ∧ Below W.heap.size W w') (hWt : ∀ W, Below w.heap.size w W → Calls Tryz.prog 109 #[.agg #[.int .i64 F.cl, hv F.ty, .string F.nm, .int .i64 F.lo, .int .i64 F.hi, .int .i64 F.un, .int .i64 F.ki], .slice K n.ks.length kk] W fun e w' => e = .returned (.bool true) ∧ Below W.heap.size W w')
    (h0 : (F.cl == 0) = false) (h1 : (0 : Int) < F.cl) (hq1 : (c == 2) = false) :
    Calls Tryz.prog 69 #[.int .i64 c, .agg #[hv n.t, .slice A n.v.length cc, .slice K n.ks.length kk], .int .i64 (d : Int)] w fun e w' => e = .returned (.int .i64 (code : Nat)) ∧ Below w.heap.size w w' := by
  have HK := Lib.hid ih
  have HD := Lib.hid hd
  have HF := Lib.hid hf
  have HC1 := Lib.hid hc1
  have HCC := Lib.hid hcode
  have HNK := Lib.hid hN.kids
  have HN := Lib.hid hN
  clear ih hd hf hc1 hcode hN
  have b0 : Below w.heap.size w (w.alloc (.cells #[hv n.t, .slice A n.v.length cc, .slice K n.ks.length kk] 51)) := (Below.refl _ _).alloc (Nat.le_refl _) _
  have hW0 := Whole.new w 51 #[hv n.t, .slice A n.v.length cc, .slice K n.ks.length kk]
  go_enter Tryz.func69, Tryz.ntmps69
  go_wp2_with fail
  refine (hO _).mono ?_
  rintro e w1 ⟨rfl, b1⟩
  have hb1 := b0.trans (b1.mono (by simp))
  have hB1 : RBox2 (w1.alloc (.cells #[.int .i64 F.cl, hv F.ty, .string F.nm, .int .i64 F.lo, .int .i64 F.hi, .int .i64 F.un, .int .i64 F.ki] 168)) w.heap.size w1.heap.size n A cc K kk F := ⟨(hW0.below b1 (by simp)).alloc _, Whole.new _ _ _⟩
  have b1' := hb1.alloc hb1.size (.cells #[.int .i64 F.cl, hv F.ty, .string F.nm, .int .i64 F.lo, .int .i64 F.hi, .int .i64 F.un, .int .i64 F.ki] 168)
  have z0 := hB1.c0
  have z1 := hB1.c1
  have z2 := hB1.c2
  have y0 := hB1.k0
  have y1 := hB1.k1
  have y2 := hB1.k2
  have y3 := hB1.k3
  have y4 := hB1.k4
  have y5 := hB1.k5
  have y6 := hB1.k6
  generalize hg1 : w1.heap.size = g1 at *
  go_upto_region 4 with (refine wpList_new_form rfl 168 _ _ rfl w1 _ _ rfl (by rw [hg1]; rfl) rfl (by kernel_rfl) rfl ?_)
  generalize w1.alloc (.cells #[.int .i64 F.cl, hv F.ty, .string F.nm, .int .i64 F.lo, .int .i64 F.hi, .int .i64 F.un, .int .i64 F.ki] 168) = w2 at *
  clear hg1 b1 hb1 w1
  go_wp2_with fail
  refine (hFt _).mono ?_
  rintro e w3 ⟨rfl, b3⟩
  have hB3 := hB1.below b3
  have hb3 := b1'.trans (b3.mono b1'.size)
  clear z0 z1 z2 y0 y1 y2 y3 y4 y5 y6
  have z0 := hB3.c0
  have z1 := hB3.c1
  have z2 := hB3.c2
  have y0 := hB3.k0
  have y1 := hB3.k1
  have y2 := hB3.k2
  have y3 := hB3.k3
  have y4 := hB3.k4
  have y5 := hB3.k5
  have y6 := hB3.k6
  go_wp2_with fail
  refine (hWt _ hb3).mono ?_
  rintro e w4 ⟨rfl, b4⟩
  have hB4 := hB3.below b4
  have hb4 := hb3.trans (b4.mono hb3.size)
  clear z0 z1 z2 y0 y1 y2 y3 y4 y5 y6
  have z0 := hB4.c0
  have z1 := hB4.c1
  have z2 := hB4.c2
  have y0 := hB4.k0
  have y1 := hB4.k1
  have y2 := hB4.k2
  have y3 := hB4.k3
  have y4 := hB4.k4
  have y5 := hB4.k5
  have y6 := hB4.k6
  go_wp2_with fail
  go_loopw [8] (fun i wr => ∃ k : Nat, k ≤ n.ks.length ∧ i = .int .i64 k ∧ Hid (∀ (j y : Nat), j < k → (n.ks.map (chk f c1))[j]? = some y → y = 0) ∧ Below w4.heap.size w4 wr) (fun i _ => n.ks.length - (intOf i).toNat)
  case atStart => exact ⟨0, Nat.zero_le _, rfl, fun j y hj _ => by omega, Below.refl _ _⟩
  case round =>
    obtain ⟨k, hk, rfl, hz, hbel⟩ := hrel
    have hbw := hb4.trans (hbel.mono hb4.size)
    have hBr := hB4.below hbel
    clear z0 z1 z2 y0 y1 y2 y3 y4 y5 y6
    have z2 := hBr.c2
    have y6 := hBr.k6
    have hkl := HF.out.kl
    by_cases hlt : k < n.ks.length
    · obtain ⟨ad, A', c', K', k', m, rfl, hb, hm, hc0, hc1, hc2, hM⟩ := (HNK.out.bel hbw).at_ hlt
      have hmem := List.mem_of_getElem? hm.out
      have hS := fun W (hW : Below wr.heap.size wr W) => HK.out c1 m (d + 1) A' c' K' k' W (by have := HD.out; omega) (HC1.out (by omega)) ((hM.more hbw.size).on hW) (HF.out.kid m hmem)
      have HX : Hid ((n.ks.map (chk f c1))[k]? = some (chk f c1 m)) := by rw [Hid, List.getElem?_map, hm.out]; rfl
      simp only [Int.natCast_add, Int.cast_ofNat_Int] at hS
      generalize chk f c1 m = x at *
      unfold ndV at hS
      have hws := hbw.size
      have hI2 : (k : Int) < (n.ks.length : Int) := by omega
      have hw1 : IntKind.i64.wrap ((d : Int) + 1) = (d : Int) + 1 := by rw [IntKind.wrap_i64]; omega
      have KS : Hid (∀ W, Below wr.heap.size wr W → W.cell? (ad.add (k * 3)) = some (hv m.t) ∧ W.cell? ⟨(ad.add (k * 3)).block, (ad.add (k * 3)).off + 1, none⟩ = some (.slice A' m.v.length c') ∧ W.cell? ⟨(ad.add (k * 3)).block, (ad.add (k * 3)).off + 2, none⟩ = some (.slice K' m.ks.length k') ∧
          W.cell? ⟨w.heap.size, 2, none⟩ = some (.slice (some ad) n.ks.length kk) ∧ W.cell? ⟨g1, 6, none⟩ = some (.int .i64 F.ki)) := fun W hW =>
        ⟨(hW.cell (p := ad.add (k * 3)) (by rw [blk_add]; omega)).trans hc0, (hW.cell (p := ⟨(ad.add (k * 3)).block, (ad.add (k * 3)).off + 1, none⟩) (by show (ad.add (k * 3)).block < _; rw [blk_add]; omega)).trans hc1, (hW.cell (p := ⟨(ad.add (k * 3)).block, (ad.add (k * 3)).off + 2, none⟩) (by show (ad.add (k * 3)).block < _; rw [blk_add]; omega)).trans hc2, (hBr.below hW).c2, (hBr.below hW).k6⟩
      have HS := Lib.hid hS
      clear hS hM hb
      go_wp2_with fail
      go_region_held3 (fun W => W.cell? (ad.add (k * 3)) = some (hv m.t) ∧ W.cell? ⟨(ad.add (k * 3)).block, (ad.add (k * 3)).off + 1, none⟩ = some (.slice A' m.v.length c') ∧ W.cell? ⟨(ad.add (k * 3)).block, (ad.add (k * 3)).off + 2, none⟩ = some (.slice K' m.ks.length k') ∧
          W.cell? ⟨w.heap.size, 2, none⟩ = some (.slice (some ad) n.ks.length kk) ∧ W.cell? ⟨g1, 6, none⟩ = some (.int .i64 F.ki))
        (first | exact KS.out _ (below_drew (Below.refl _ _)) | exact KS.out _ b6 | fail)
        (first
        | (go_at_call 111; (with_reducible refine (hIn _).mono ?_); rintro e w5 ⟨rfl, rfl⟩)
        | (go_at_call 69; (with_reducible refine (HS.out _ (below_drew (Below.refl _ _))).mono ?_); rintro e w6 ⟨rfl, b6'⟩; have b6 : Below wr.heap.size wr w6 := below_undrew b6')
        | fail)
      by_cases hx : x = 0
      · have HZ : Hid (∀ (j y : Nat), j < k + 1 → (n.ks.map (chk f c1))[j]? = some y → y = 0) := fun j y hj hy => by
          by_cases hjk : j = k
          · subst hjk
            rw [HX.out] at hy
            cases hy
            exact hx
          · exact hz.out j y (by omega) hy
        subst hx
        go_wp2_with fail
        go_roundw
        case rel => exact ⟨k + 1, by omega, by go_num, HZ, hbel.trans (b6.mono hbel.size)⟩
        case measure => simp [intOf]; omega
      · have hxc : code = x := by
          rw [HCC.out, fst0_at HX.out hx hz.out, if_pos hx]
        have hq : ((x : Int) != 0) = true := by rw [bne_iff_ne]; omega
        have HR := Lib.hid hxc
        clear hx hxc
        go_wp2_with fail
        go_ret
        rw [HR.out]
        exact ⟨rfl, hbw.trans (b6.mono hbw.size)⟩
    · obtain rfl : k = n.ks.length := by omega
      have hcc := HCC.out
      rw [fst0_none (by intro j y hj hy; exact hz.out j y (by simpa using hj) hy), if_neg (by simp)] at hcc
      have hb0' : Below wr.heap.size wr (wr.alloc (.cells #[hv n.t, .slice A n.v.length cc, .slice K n.ks.length kk] 51)) := (Below.refl _ _).alloc (Nat.le_refl _) _
      have hL1 := ((HN.out.on hbw).list1 51)
      have e1 : sizes (lens [n]) = 4 + n.vlen := by rw [lens, lens, sizes_one]
      have hS := rsize_any [n] (by intro m hm; rw [List.mem_singleton.1 hm]; exact HF.out) (some ⟨wr.heap.size, 0, none⟩) 1 (wr.alloc (.cells #[hv n.t, .slice A n.v.length cc, .slice K n.ks.length kk] 51)) (hL1.more (by simp)) (by simp) (by intro m hm; rw [List.mem_singleton.1 hm]; exact HF.out) (by rw [e1]; have := HF.out.vl; omega)
      rw [e1] at hS
      have hS' := hS.mono (R' := fun e w' => e = .returned (.int .i64 ((4 + n.vlen : Nat) : Int)) ∧ Below wr.heap.size wr w') (fun e w' h => ⟨h.1, hb0'.trans (h.2.mono (by simp))⟩)
      have r0 := hBr.c0
      have r1 := hBr.c1
      simp only [List.length_singleton] at hS'
      clear hS e1 y6 hL1
      by_cases hv4 : 65531 < n.vlen
      · rw [if_pos hv4] at hcc
        have HR := Lib.hid hcc
        have hi4 : (65535 : Int) < ((4 + n.vlen : Nat) : Int) := by omega
        clear hcc
        generalize 4 + n.vlen = y at *
        go_wp2_with fail
        refine hS'.mono ?_
        rintro e w6 ⟨rfl, b6⟩
        go_wp2_with fail
        go_ret
        rw [HR.out]
        exact ⟨rfl, hbw.trans (b6.mono hbw.size)⟩
      · rw [if_neg hv4] at hcc
        have HR := Lib.hid hcc
        have hi4 : ¬ (65535 : Int) < ((4 + n.vlen : Nat) : Int) := by omega
        clear hcc
        generalize 4 + n.vlen = y at *
        go_wp2_with fail
        refine hS'.mono ?_
        rintro e w6 ⟨rfl, b6⟩
        go_wp2_with fail
        go_ret
        rw [HR.out]
        exact ⟨rfl, hbw.trans (b6.mono hbw.size)⟩
set_option maxRecDepth 100000 in
set_option maxHeartbeats 4000000 in
theorem rc_none_b (hO : ∀ W, Calls Tryz.prog 107 #[.int .i64 c, hv n.t] W fun e w' => e = .returned (.agg #[.int .i64 F.cl, hv F.ty, .string F.nm, .int .i64 F.lo, .int .i64 F.hi, .int .i64 F.un, .int .i64 F.ki]) ∧ Below W.heap.size W w')
    (hd4 : (d : Int) ≤ 4) (hN : Node w w.heap.size A cc K kk n)
    (ih : RCheckOK f) (hd : d + (f + 1) = 5) (hf : Fine n) (c1 : Int) (_hIn : ∀ W, Calls Tryz.prog 111 #[.int .i64 F.ki] W fun e w' => e = .returned (.int .i64 c1) ∧ W = w') (hc1 : 0 < n.ks.length → c1 = 1 ∨ c1 = 2)
    (hcode : code = if fst0 (n.ks.map (chk f c1)) ≠ 0 then fst0 (n.ks.map (chk f c1)) else if 65531 < n.vlen then 4 else 0)
    (h0 : (F.cl == 0) = true) (h1 : ¬ (0 : Int) < F.cl) (hk0 : ¬ (0 : Int) < (n.ks.length : Int)) (hq1 : (c == 2) = true) (hq2 : ((n.t.toNat : Int) == 2) = false) :
    Calls Tryz.prog 69 #[.int .i64 c, .agg #[hv n.t, .slice A n.v.length cc, .slice K n.ks.length kk], .int .i64 (d : Int)] w fun e w' => e = .returned (.int .i64 (code : Nat)) ∧ Below w.heap.size w w' := by
  have HK := Lib.hid ih
  have HD := Lib.hid hd
  have HF := Lib.hid hf
  have HC1 := Lib.hid hc1
  have HCC := Lib.hid hcode
  have HNK := Lib.hid hN.kids
  have HN := Lib.hid hN
  clear ih hd hf hc1 hcode hN
  have b0 : Below w.heap.size w (w.alloc (.cells #[hv n.t, .slice A n.v.length cc, .slice K n.ks.length kk] 51)) := (Below.refl _ _).alloc (Nat.le_refl _) _
  have hW0 := Whole.new w 51 #[hv n.t, .slice A n.v.length cc, .slice K n.ks.length kk]
  go_enter Tryz.func69, Tryz.ntmps69
  go_wp2_with fail
  refine (hO _).mono ?_
  rintro e w1 ⟨rfl, b1⟩
  have hb1 := b0.trans (b1.mono (by simp))
  have hB1 : RBox2 (w1.alloc (.cells #[.int .i64 F.cl, hv F.ty, .string F.nm, .int .i64 F.lo, .int .i64 F.hi, .int .i64 F.un, .int .i64 F.ki] 168)) w.heap.size w1.heap.size n A cc K kk F := ⟨(hW0.below b1 (by simp)).alloc _, Whole.new _ _ _⟩
  have b1' := hb1.alloc hb1.size (.cells #[.int .i64 F.cl, hv F.ty, .string F.nm, .int .i64 F.lo, .int .i64 F.hi, .int .i64 F.un, .int .i64 F.ki] 168)
  have z0 := hB1.c0
  have z1 := hB1.c1
  have z2 := hB1.c2
  have y0 := hB1.k0
  have y1 := hB1.k1
  have y2 := hB1.k2
  have y3 := hB1.k3
  have y4 := hB1.k4
  have y5 := hB1.k5
  have y6 := hB1.k6
  generalize hg1 : w1.heap.size = g1 at *
  go_upto_region 4 with (refine wpList_new_form rfl 168 _ _ rfl w1 _ _ rfl (by rw [hg1]; rfl) rfl (by kernel_rfl) rfl ?_)
  generalize w1.alloc (.cells #[.int .i64 F.cl, hv F.ty, .string F.nm, .int .i64 F.lo, .int .i64 F.hi, .int .i64 F.un, .int .i64 F.ki] 168) = w2 at *
  clear hg1 b1 hb1 w1
  go_wp2_with fail
  go_loopw [8] (fun i wr => ∃ k : Nat, k ≤ n.ks.length ∧ i = .int .i64 k ∧ Hid (∀ (j y : Nat), j < k → (n.ks.map (chk f c1))[j]? = some y → y = 0) ∧ Below w2.heap.size w2 wr) (fun i _ => n.ks.length - (intOf i).toNat)
  case atStart => exact ⟨0, Nat.zero_le _, rfl, fun j y hj _ => by omega, Below.refl _ _⟩
  case round =>
    obtain ⟨k, hk, rfl, hz, hbel⟩ := hrel
    have hbw := b1'.trans (hbel.mono b1'.size)
    have hBr := hB1.below hbel
    clear z0 z1 z2 y0 y1 y2 y3 y4 y5 y6
    have z2 := hBr.c2
    have y6 := hBr.k6
    have hkl := HF.out.kl
    by_cases hlt : k < n.ks.length
    · exact absurd hlt (by omega)
    · obtain rfl : k = n.ks.length := by omega
      have hcc := HCC.out
      rw [fst0_none (by intro j y hj hy; exact hz.out j y (by simpa using hj) hy), if_neg (by simp)] at hcc
      have hb0' : Below wr.heap.size wr (wr.alloc (.cells #[hv n.t, .slice A n.v.length cc, .slice K n.ks.length kk] 51)) := (Below.refl _ _).alloc (Nat.le_refl _) _
      have hL1 := ((HN.out.on hbw).list1 51)
      have e1 : sizes (lens [n]) = 4 + n.vlen := by rw [lens, lens, sizes_one]
      have hS := rsize_any [n] (by intro m hm; rw [List.mem_singleton.1 hm]; exact HF.out) (some ⟨wr.heap.size, 0, none⟩) 1 (wr.alloc (.cells #[hv n.t, .slice A n.v.length cc, .slice K n.ks.length kk] 51)) (hL1.more (by simp)) (by simp) (by intro m hm; rw [List.mem_singleton.1 hm]; exact HF.out) (by rw [e1]; have := HF.out.vl; omega)
      rw [e1] at hS
      have hS' := hS.mono (R' := fun e w' => e = .returned (.int .i64 ((4 + n.vlen : Nat) : Int)) ∧ Below wr.heap.size wr w') (fun e w' h => ⟨h.1, hb0'.trans (h.2.mono (by simp))⟩)
      have r0 := hBr.c0
      have r1 := hBr.c1
      simp only [List.length_singleton] at hS'
      clear hS e1 y6 hL1
      by_cases hv4 : 65531 < n.vlen
      · rw [if_pos hv4] at hcc
        have HR := Lib.hid hcc
        have hi4 : (65535 : Int) < ((4 + n.vlen : Nat) : Int) := by omega
        clear hcc
        generalize 4 + n.vlen = y at *
        go_wp2_with fail
        refine hS'.mono ?_
        rintro e w6 ⟨rfl, b6⟩
        go_wp2_with fail
        go_ret
        rw [HR.out]
        exact ⟨rfl, hbw.trans (b6.mono hbw.size)⟩
      · rw [if_neg hv4] at hcc
        have HR := Lib.hid hcc
        have hi4 : ¬ (65535 : Int) < ((4 + n.vlen : Nat) : Int) := by omega
        clear hcc
        generalize 4 + n.vlen = y at *
        go_wp2_with fail
        refine hS'.mono ?_
        rintro e w6 ⟨rfl, b6⟩
        go_wp2_with fail
        go_ret
        rw [HR.out]
        exact ⟨rfl, hbw.trans (b6.mono hbw.size)⟩
set_option maxRecDepth 100000 in
set_option maxHeartbeats 4000000 in
theorem rc_some_b (hO : ∀ W, Calls Tryz.prog 107 #[.int .i64 c, hv n.t] W fun e w' => e = .returned (.agg #[.int .i64 F.cl, hv F.ty, .string F.nm, .int .i64 F.lo, .int .i64 F.hi, .int .i64 F.un, .int .i64 F.ki]) ∧ Below W.heap.size W w')
    (hd4 : (d : Int) ≤ 4) (hN : Node w w.heap.size A cc K kk n)
    (ih : RCheckOK f) (hd : d + (f + 1) = 5) (hf : Fine n) (c1 : Int) (hIn : ∀ W, Calls Tryz.prog 111 #[.int .i64 F.ki] W fun e w' => e = .returned (.int .i64 c1) ∧ W = w') (hc1 : 0 < n.ks.length → c1 = 1 ∨ c1 = 2)
    (hcode : code = if fst0 (n.ks.map (chk f c1)) ≠ 0 then fst0 (n.ks.map (chk f c1)) else if 65531 < n.vlen then 4 else 0)
    (hFt : ∀ W, Calls Tryz.prog 108 #[.agg #[.int .i64 F.cl, hv F.ty, .string F.nm, .int .i64 F.lo, .int .i64 F.hi, .int .i64 F.un, .int .i64 F.ki], .int .i64 (n.v.length : Int)] W fun e w' => e = .returned (.bool true) ∧ Below W.heap.size W w') (hWt : ∀ W, Below w.heap.size w W → Calls Tryz.prog 109 #[.agg #[.int .i64 F.cl, hv F.ty, .string F.nm, .int .i64 F.lo, .int .i64 F.hi, .int .i64 F.un, .int .i64 F.ki], .slice K n.ks.length kk] W fun e w' => e = .returned (.bool true) ∧ Below W.heap.size W w')
    (h0 : (F.cl == 0) = false) (h1 : (0 : Int) < F.cl) (hq1 : (c == 2) = true) (hq2 : ((n.t.toNat : Int) == 2) = false) :
    Calls Tryz.prog 69 #[.int .i64 c, .agg #[hv n.t, .slice A n.v.length cc, .slice K n.ks.length kk], .int .i64 (d : Int)] w fun e w' => e = .returned (.int .i64 (code : Nat)) ∧ Below w.heap.size w w' := by
  have HK := Lib.hid ih
  have HD := Lib.hid hd
  have HF := Lib.hid hf
  have HC1 := Lib.hid hc1
  have HCC := Lib.hid hcode
  have HNK := Lib.hid hN.kids
  have HN := Lib.hid hN
  clear ih hd hf hc1 hcode hN
  have b0 : Below w.heap.size w (w.alloc (.cells #[hv n.t, .slice A n.v.length cc, .slice K n.ks.length kk] 51)) := (Below.refl _ _).alloc (Nat.le_refl _) _
  have hW0 := Whole.new w 51 #[hv n.t, .slice A n.v.length cc, .slice K n.ks.length kk]
  go_enter Tryz.func69, Tryz.ntmps69
  go_wp2_with fail
  refine (hO _).mono ?_
  rintro e w1 ⟨rfl, b1⟩
  have hb1 := b0.trans (b1.mono (by simp))
  have hB1 : RBox2 (w1.alloc (.cells #[.int .i64 F.cl, hv F.ty, .string F.nm, .int .i64 F.lo, .int .i64 F.hi, .int .i64 F.un, .int .i64 F.ki] 168)) w.heap.size w1.heap.size n A cc K kk F := ⟨(hW0.below b1 (by simp)).alloc _, Whole.new _ _ _⟩
  have b1' := hb1.alloc hb1.size (.cells #[.int .i64 F.cl, hv F.ty, .string F.nm, .int .i64 F.lo, .int .i64 F.hi, .int .i64 F.un, .int .i64 F.ki] 168)
  have z0 := hB1.c0
  have z1 := hB1.c1
  have z2 := hB1.c2
  have y0 := hB1.k0
  have y1 := hB1.k1
  have y2 := hB1.k2
  have y3 := hB1.k3
  have y4 := hB1.k4
  have y5 := hB1.k5
  have y6 := hB1.k6
  generalize hg1 : w1.heap.size = g1 at *
  go_upto_region 4 with (refine wpList_new_form rfl 168 _ _ rfl w1 _ _ rfl (by rw [hg1]; rfl) rfl (by kernel_rfl) rfl ?_)
  generalize w1.alloc (.cells #[.int .i64 F.cl, hv F.ty, .string F.nm, .int .i64 F.lo, .int .i64 F.hi, .int .i64 F.un, .int .i64 F.ki] 168) = w2 at *
  clear hg1 b1 hb1 w1
  go_wp2_with fail
  refine (hFt _).mono ?_
  rintro e w3 ⟨rfl, b3⟩
  have hB3 := hB1.below b3
  have hb3 := b1'.trans (b3.mono b1'.size)
  clear z0 z1 z2 y0 y1 y2 y3 y4 y5 y6
  have z0 := hB3.c0
  have z1 := hB3.c1
  have z2 := hB3.c2
  have y0 := hB3.k0
  have y1 := hB3.k1
  have y2 := hB3.k2
  have y3 := hB3.k3
  have y4 := hB3.k4
  have y5 := hB3.k5
  have y6 := hB3.k6
  go_wp2_with fail
  refine (hWt _ hb3).mono ?_
  rintro e w4 ⟨rfl, b4⟩
  have hB4 := hB3.below b4
  have hb4 := hb3.trans (b4.mono hb3.size)
  clear z0 z1 z2 y0 y1 y2 y3 y4 y5 y6
  have z0 := hB4.c0
  have z1 := hB4.c1
  have z2 := hB4.c2
  have y0 := hB4.k0
  have y1 := hB4.k1
  have y2 := hB4.k2
  have y3 := hB4.k3
  have y4 := hB4.k4
  have y5 := hB4.k5
  have y6 := hB4.k6
  go_wp2_with fail
  go_loopw [8] (fun i wr => ∃ k : Nat, k ≤ n.ks.length ∧ i = .int .i64 k ∧ Hid (∀ (j y : Nat), j < k → (n.ks.map (chk f c1))[j]? = some y → y = 0) ∧ Below w4.heap.size w4 wr) (fun i _ => n.ks.length - (intOf i).toNat)
  case atStart => exact ⟨0, Nat.zero_le _, rfl, fun j y hj _ => by omega, Below.refl _ _⟩
  case round =>
    obtain ⟨k, hk, rfl, hz, hbel⟩ := hrel
    have hbw := hb4.trans (hbel.mono hb4.size)
    have hBr := hB4.below hbel
    clear z0 z1 z2 y0 y1 y2 y3 y4 y5 y6
    have z2 := hBr.c2
    have y6 := hBr.k6
    have hkl := HF.out.kl
    by_cases hlt : k < n.ks.length
    · obtain ⟨ad, A', c', K', k', m, rfl, hb, hm, hc0, hc1, hc2, hM⟩ := (HNK.out.bel hbw).at_ hlt
      have hmem := List.mem_of_getElem? hm.out
      have hS := fun W (hW : Below wr.heap.size wr W) => HK.out c1 m (d + 1) A' c' K' k' W (by have := HD.out; omega) (HC1.out (by omega)) ((hM.more hbw.size).on hW) (HF.out.kid m hmem)
      have HX : Hid ((n.ks.map (chk f c1))[k]? = some (chk f c1 m)) := by rw [Hid, List.getElem?_map, hm.out]; rfl
      simp only [Int.natCast_add, Int.cast_ofNat_Int] at hS
      generalize chk f c1 m = x at *
      unfold ndV at hS
      have hws := hbw.size
      have hI2 : (k : Int) < (n.ks.length : Int) := by omega
      have hw1 : IntKind.i64.wrap ((d : Int) + 1) = (d : Int) + 1 := by rw [IntKind.wrap_i64]; omega
      have KS : Hid (∀ W, Below wr.heap.size wr W → W.cell? (ad.add (k * 3)) = some (hv m.t) ∧ W.cell? ⟨(ad.add (k * 3)).block, (ad.add (k * 3)).off + 1, none⟩ = some (.slice A' m.v.length c') ∧ W.cell? ⟨(ad.add (k * 3)).block, (ad.add (k * 3)).off + 2, none⟩ = some (.slice K' m.ks.length k') ∧
          W.cell? ⟨w.heap.size, 2, none⟩ = some (.slice (some ad) n.ks.length kk) ∧ W.cell? ⟨g1, 6, none⟩ = some (.int .i64 F.ki)) := fun W hW =>
        ⟨(hW.cell (p := ad.add (k * 3)) (by rw [blk_add]; omega)).trans hc0, (hW.cell (p := ⟨(ad.add (k * 3)).block, (ad.add (k * 3)).off + 1, none⟩) (by show (ad.add (k * 3)).block < _; rw [blk_add]; omega)).trans hc1, (hW.cell (p := ⟨(ad.add (k * 3)).block, (ad.add (k * 3)).off + 2, none⟩) (by show (ad.add (k * 3)).block < _; rw [blk_add]; omega)).trans hc2, (hBr.below hW).c2, (hBr.below hW).k6⟩
      have HS := Lib.hid hS
      clear hS hM hb
      go_wp2_with fail
      go_region_held3 (fun W => W.cell? (ad.add (k * 3)) = some (hv m.t) ∧ W.cell? ⟨(ad.add (k * 3)).block, (ad.add (k * 3)).off + 1, none⟩ = some (.slice A' m.v.length c') ∧ W.cell? ⟨(ad.add (k * 3)).block, (ad.add (k * 3)).off + 2, none⟩ = some (.slice K' m.ks.length k') ∧
          W.cell? ⟨w.heap.size, 2, none⟩ = some (.slice (some ad) n.ks.length kk) ∧ W.cell? ⟨g1, 6, none⟩ = some (.int .i64 F.ki))
        (first | exact KS.out _ (below_drew (Below.refl _ _)) | exact KS.out _ b6 | fail)
        (first
        | (go_at_call 111; (with_reducible refine (hIn _).mono ?_); rintro e w5 ⟨rfl, rfl⟩)
        | (go_at_call 69; (with_reducible refine (HS.out _ (below_drew (Below.refl _ _))).mono ?_); rintro e w6 ⟨rfl, b6'⟩; have b6 : Below wr.heap.size wr w6 := below_undrew b6')
        | fail)
      by_cases hx : x = 0
      · have HZ : Hid (∀ (j y : Nat), j < k + 1 → (n.ks.map (chk f c1))[j]? = some y → y = 0) := fun j y hj hy => by
          by_cases hjk : j = k
          · subst hjk
            rw [HX.out] at hy
            cases hy
            exact hx
          · exact hz.out j y (by omega) hy
        subst hx
        go_wp2_with fail
        go_roundw
        case rel => exact ⟨k + 1, by omega, by go_num, HZ, hbel.trans (b6.mono hbel.size)⟩
        case measure => simp [intOf]; omega
      · have hxc : code = x := by
          rw [HCC.out, fst0_at HX.out hx hz.out, if_pos hx]
        have hq : ((x : Int) != 0) = true := by rw [bne_iff_ne]; omega
        have HR := Lib.hid hxc
        clear hx hxc
        go_wp2_with fail
        go_ret
        rw [HR.out]
        exact ⟨rfl, hbw.trans (b6.mono hbw.size)⟩
    · obtain rfl : k = n.ks.length := by omega
      have hcc := HCC.out
      rw [fst0_none (by intro j y hj hy; exact hz.out j y (by simpa using hj) hy), if_neg (by simp)] at hcc
      have hb0' : Below wr.heap.size wr (wr.alloc (.cells #[hv n.t, .slice A n.v.length cc, .slice K n.ks.length kk] 51)) := (Below.refl _ _).alloc (Nat.le_refl _) _
      have hL1 := ((HN.out.on hbw).list1 51)
      have e1 : sizes (lens [n]) = 4 + n.vlen := by rw [lens, lens, sizes_one]
      have hS := rsize_any [n] (by intro m hm; rw [List.mem_singleton.1 hm]; exact HF.out) (some ⟨wr.heap.size, 0, none⟩) 1 (wr.alloc (.cells #[hv n.t, .slice A n.v.length cc, .slice K n.ks.length kk] 51)) (hL1.more (by simp)) (by simp) (by intro m hm; rw [List.mem_singleton.1 hm]; exact HF.out) (by rw [e1]; have := HF.out.vl; omega)
      rw [e1] at hS
      have hS' := hS.mono (R' := fun e w' => e = .returned (.int .i64 ((4 + n.vlen : Nat) : Int)) ∧ Below wr.heap.size wr w') (fun e w' h => ⟨h.1, hb0'.trans (h.2.mono (by simp))⟩)
      have r0 := hBr.c0
      have r1 := hBr.c1
      simp only [List.length_singleton] at hS'
      clear hS e1 y6 hL1
      by_cases hv4 : 65531 < n.vlen
      · rw [if_pos hv4] at hcc
        have HR := Lib.hid hcc
        have hi4 : (65535 : Int) < ((4 + n.vlen : Nat) : Int) := by omega
        clear hcc
        generalize 4 + n.vlen = y at *
        go_wp2_with fail
        refine hS'.mono ?_
        rintro e w6 ⟨rfl, b6⟩
        go_wp2_with fail
        go_ret
        rw [HR.out]
        exact ⟨rfl, hbw.trans (b6.mono hbw.size)⟩
      · rw [if_neg hv4] at hcc
        have HR := Lib.hid hcc
        have hi4 : ¬ (65535 : Int) < ((4 + n.vlen : Nat) : Int) := by omega
        clear hcc
        generalize 4 + n.vlen = y at *
        go_wp2_with fail
        refine hS'.mono ?_
        rintro e w6 ⟨rfl, b6⟩
        go_wp2_with fail
        go_ret
        rw [HR.out]
        exact ⟨rfl, hbw.trans (b6.mono hbw.size)⟩
set_option maxRecDepth 100000 in
set_option maxHeartbeats 4000000 in
theorem rc_some_c (hO : ∀ W, Calls Tryz.prog 107 #[.int .i64 c, hv n.t] W fun e w' => e = .returned (.agg #[.int .i64 F.cl, hv F.ty, .string F.nm, .int .i64 F.lo, .int .i64 F.hi, .int .i64 F.un, .int .i64 F.ki]) ∧ Below W.heap.size W w')
    (hd4 : (d : Int) ≤ 4) (hN : Node w w.heap.size A cc K kk n)
    (ih : RCheckOK f) (hd : d + (f + 1) = 5) (hf : Fine n) (c1 : Int) (hIn : ∀ W, Calls Tryz.prog 111 #[.int .i64 F.ki] W fun e w' => e = .returned (.int .i64 c1) ∧ W = w') (hc1 : 0 < n.ks.length → c1 = 1 ∨ c1 = 2)
    (hcode : code = if fst0 (n.ks.map (chk f c1)) ≠ 0 then fst0 (n.ks.map (chk f c1)) else if 65531 < n.vlen then 4 else 0)
    (hFt : ∀ W, Calls Tryz.prog 108 #[.agg #[.int .i64 F.cl, hv F.ty, .string F.nm, .int .i64 F.lo, .int .i64 F.hi, .int .i64 F.un, .int .i64 F.ki], .int .i64 (n.v.length : Int)] W fun e w' => e = .returned (.bool true) ∧ Below W.heap.size W w') (hWt : ∀ W, Below w.heap.size w W → Calls Tryz.prog 109 #[.agg #[.int .i64 F.cl, hv F.ty, .string F.nm, .int .i64 F.lo, .int .i64 F.hi, .int .i64 F.un, .int .i64 F.ki], .slice K n.ks.length kk] W fun e w' => e = .returned (.bool true) ∧ Below W.heap.size W w')
    (h0 : (F.cl == 0) = false) (h1 : (0 : Int) < F.cl) (hCt : ∀ W, Below w.heap.size w W → Calls Tryz.prog 110 #[.slice A n.v.length cc] W fun e w' => e = .returned (.bool true) ∧ W = w') (hq1 : (c == 2) = true) (hq2 : ((n.t.toNat : Int) == 2) = true) :
    Calls Tryz.prog 69 #[.int .i64 c, .agg #[hv n.t, .slice A n.v.length cc, .slice K n.ks.length kk], .int .i64 (d : Int)] w fun e w' => e = .returned (.int .i64 (code : Nat)) ∧ Below w.heap.size w w' := by
  have HK := Lib.hid ih
  have HD := Lib.hid hd
  have HF := Lib.hid hf
  have HC1 := Lib.hid hc1
  have HCC := Lib.hid hcode
  have HNK := Lib.hid hN.kids
  have HN := Lib.hid hN
  clear ih hd hf hc1 hcode hN
  have b0 : Below w.heap.size w (w.alloc (.cells #[hv n.t, .slice A n.v.length cc, .slice K n.ks.length kk] 51)) := (Below.refl _ _).alloc (Nat.le_refl _) _
  have hW0 := Whole.new w 51 #[hv n.t, .slice A n.v.length cc, .slice K n.ks.length kk]
  go_enter Tryz.func69, Tryz.ntmps69
  go_wp2_with fail
  refine (hO _).mono ?_
  rintro e w1 ⟨rfl, b1⟩
  have hb1 := b0.trans (b1.mono (by simp))
  have hB1 : RBox2 (w1.alloc (.cells #[.int .i64 F.cl, hv F.ty, .string F.nm, .int .i64 F.lo, .int .i64 F.hi, .int .i64 F.un, .int .i64 F.ki] 168)) w.heap.size w1.heap.size n A cc K kk F := ⟨(hW0.below b1 (by simp)).alloc _, Whole.new _ _ _⟩
  have b1' := hb1.alloc hb1.size (.cells #[.int .i64 F.cl, hv F.ty, .string F.nm, .int .i64 F.lo, .int .i64 F.hi, .int .i64 F.un, .int .i64 F.ki] 168)
  have z0 := hB1.c0
  have z1 := hB1.c1
  have z2 := hB1.c2
  have y0 := hB1.k0
  have y1 := hB1.k1
  have y2 := hB1.k2
  have y3 := hB1.k3
  have y4 := hB1.k4
  have y5 := hB1.k5
  have y6 := hB1.k6
  generalize hg1 : w1.heap.size = g1 at *
  go_upto_region 4 with (refine wpList_new_form rfl 168 _ _ rfl w1 _ _ rfl (by rw [hg1]; rfl) rfl (by kernel_rfl) rfl ?_)
  generalize w1.alloc (.cells #[.int .i64 F.cl, hv F.ty, .string F.nm, .int .i64 F.lo, .int .i64 F.hi, .int .i64 F.un, .int .i64 F.ki] 168) = w2 at *
  clear hg1 b1 hb1 w1
  go_wp2_with fail
  refine (hFt _).mono ?_
  rintro e w3 ⟨rfl, b3⟩
  have hB3 := hB1.below b3
  have hb3 := b1'.trans (b3.mono b1'.size)
  clear z0 z1 z2 y0 y1 y2 y3 y4 y5 y6
  have z0 := hB3.c0
  have z1 := hB3.c1
  have z2 := hB3.c2
  have y0 := hB3.k0
  have y1 := hB3.k1
  have y2 := hB3.k2
  have y3 := hB3.k3
  have y4 := hB3.k4
  have y5 := hB3.k5
  have y6 := hB3.k6
  go_wp2_with fail
  refine (hWt _ hb3).mono ?_
  rintro e w4 ⟨rfl, b4⟩
  have hB4 := hB3.below b4
  have hb4 := hb3.trans (b4.mono hb3.size)
  clear z0 z1 z2 y0 y1 y2 y3 y4 y5 y6
  have z0 := hB4.c0
  have z1 := hB4.c1
  have z2 := hB4.c2
  have y0 := hB4.k0
  have y1 := hB4.k1
  have y2 := hB4.k2
  have y3 := hB4.k3
  have y4 := hB4.k4
  have y5 := hB4.k5
  have y6 := hB4.k6
  go_wp2_with fail
  refine (hCt _ hb4).mono ?_
  rintro e w5 ⟨rfl, rfl⟩
  go_wp2_with fail
  go_loopw [8] (fun i wr => ∃ k : Nat, k ≤ n.ks.length ∧ i = .int .i64 k ∧ Hid (∀ (j y : Nat), j < k → (n.ks.map (chk f c1))[j]? = some y → y = 0) ∧ Below w4.heap.size w4 wr) (fun i _ => n.ks.length - (intOf i).toNat)
  case atStart => exact ⟨0, Nat.zero_le _, rfl, fun j y hj _ => by omega, Below.refl _ _⟩
  case round =>
    obtain ⟨k, hk, rfl, hz, hbel⟩ := hrel
    have hbw := hb4.trans (hbel.mono hb4.size)
    have hBr := hB4.below hbel
    clear z0 z1 z2 y0 y1 y2 y3 y4 y5 y6
    have z2 := hBr.c2
    have y6 := hBr.k6
    have hkl := HF.out.kl
    by_cases hlt : k < n.ks.length
    · obtain ⟨ad, A', c', K', k', m, rfl, hb, hm, hc0, hc1, hc2, hM⟩ := (HNK.out.bel hbw).at_ hlt
      have hmem := List.mem_of_getElem? hm.out
      have hS := fun W (hW : Below wr.heap.size wr W) => HK.out c1 m (d + 1) A' c' K' k' W (by have := HD.out; omega) (HC1.out (by omega)) ((hM.more hbw.size).on hW) (HF.out.kid m hmem)
      have HX : Hid ((n.ks.map (chk f c1))[k]? = some (chk f c1 m)) := by rw [Hid, List.getElem?_map, hm.out]; rfl
      simp only [Int.natCast_add, Int.cast_ofNat_Int] at hS
      generalize chk f c1 m = x at *
      unfold ndV at hS
      have hws := hbw.size
      have hI2 : (k : Int) < (n.ks.length : Int) := by omega
      have hw1 : IntKind.i64.wrap ((d : Int) + 1) = (d : Int) + 1 := by rw [IntKind.wrap_i64]; omega
      have KS : Hid (∀ W, Below wr.heap.size wr W → W.cell? (ad.add (k * 3)) = some (hv m.t) ∧ W.cell? ⟨(ad.add (k * 3)).block, (ad.add (k * 3)).off + 1, none⟩ = some (.slice A' m.v.length c') ∧ W.cell? ⟨(ad.add (k * 3)).block, (ad.add (k * 3)).off + 2, none⟩ = some (.slice K' m.ks.length k') ∧
          W.cell? ⟨w.heap.size, 2, none⟩ = some (.slice (some ad) n.ks.length kk) ∧ W.cell? ⟨g1, 6, none⟩ = some (.int .i64 F.ki)) := fun W hW =>
        ⟨(hW.cell (p := ad.add (k * 3)) (by rw [blk_add]; omega)).trans hc0, (hW.cell (p := ⟨(ad.add (k * 3)).block, (ad.add (k * 3)).off + 1, none⟩) (by show (ad.add (k * 3)).block < _; rw [blk_add]; omega)).trans hc1, (hW.cell (p := ⟨(ad.add (k * 3)).block, (ad.add (k * 3)).off + 2, none⟩) (by show (ad.add (k * 3)).block < _; rw [blk_add]; omega)).trans hc2, (hBr.below hW).c2, (hBr.below hW).k6⟩
      have HS := Lib.hid hS
      clear hS hM hb
      go_wp2_with fail
      go_region_held3 (fun W => W.cell? (ad.add (k * 3)) = some (hv m.t) ∧ W.cell? ⟨(ad.add (k * 3)).block, (ad.add (k * 3)).off + 1, none⟩ = some (.slice A' m.v.length c') ∧ W.cell? ⟨(ad.add (k * 3)).block, (ad.add (k * 3)).off + 2, none⟩ = some (.slice K' m.ks.length k') ∧
          W.cell? ⟨w.heap.size, 2, none⟩ = some (.slice (some ad) n.ks.length kk) ∧ W.cell? ⟨g1, 6, none⟩ = some (.int .i64 F.ki))
        (first | exact KS.out _ (below_drew (Below.refl _ _)) | exact KS.out _ b6 | fail)
        (first
        | (go_at_call 111; (with_reducible refine (hIn _).mono ?_); rintro e w5 ⟨rfl, rfl⟩)
        | (go_at_call 69; (with_reducible refine (HS.out _ (below_drew (Below.refl _ _))).mono ?_); rintro e w6 ⟨rfl, b6'⟩; have b6 : Below wr.heap.size wr w6 := below_undrew b6')
        | fail)
      by_cases hx : x = 0
      · have HZ : Hid (∀ (j y : Nat), j < k + 1 → (n.ks.map (chk f c1))[j]? = some y → y = 0) := fun j y hj hy => by
          by_cases hjk : j = k
          · subst hjk
            rw [HX.out] at hy
            cases hy
            exact hx
          · exact hz.out j y (by omega) hy
        subst hx
        go_wp2_with fail
        go_roundw
        case rel => exact ⟨k + 1, by omega, by go_num, HZ, hbel.trans (b6.mono hbel.size)⟩
        case measure => simp [intOf]; omega
      · have hxc : code = x := by
          rw [HCC.out, fst0_at HX.out hx hz.out, if_pos hx]
        have hq : ((x : Int) != 0) = true := by rw [bne_iff_ne]; omega
        have HR := Lib.hid hxc
        clear hx hxc
        go_wp2_with fail
        go_ret
        rw [HR.out]
        exact ⟨rfl, hbw.trans (b6.mono hbw.size)⟩
    · obtain rfl : k = n.ks.length := by omega
      have hcc := HCC.out
      rw [fst0_none (by intro j y hj hy; exact hz.out j y (by simpa using hj) hy), if_neg (by simp)] at hcc
      have hb0' : Below wr.heap.size wr (wr.alloc (.cells #[hv n.t, .slice A n.v.length cc, .slice K n.ks.length kk] 51)) := (Below.refl _ _).alloc (Nat.le_refl _) _
      have hL1 := ((HN.out.on hbw).list1 51)
      have e1 : sizes (lens [n]) = 4 + n.vlen := by rw [lens, lens, sizes_one]
      have hS := rsize_any [n] (by intro m hm; rw [List.mem_singleton.1 hm]; exact HF.out) (some ⟨wr.heap.size, 0, none⟩) 1 (wr.alloc (.cells #[hv n.t, .slice A n.v.length cc, .slice K n.ks.length kk] 51)) (hL1.more (by simp)) (by simp) (by intro m hm; rw [List.mem_singleton.1 hm]; exact HF.out) (by rw [e1]; have := HF.out.vl; omega)
      rw [e1] at hS
      have hS' := hS.mono (R' := fun e w' => e = .returned (.int .i64 ((4 + n.vlen : Nat) : Int)) ∧ Below wr.heap.size wr w') (fun e w' h => ⟨h.1, hb0'.trans (h.2.mono (by simp))⟩)
      have r0 := hBr.c0
      have r1 := hBr.c1
      simp only [List.length_singleton] at hS'
      clear hS e1 y6 hL1
      by_cases hv4 : 65531 < n.vlen
      · rw [if_pos hv4] at hcc
        have HR := Lib.hid hcc
        have hi4 : (65535 : Int) < ((4 + n.vlen : Nat) : Int) := by omega
        clear hcc
        generalize 4 + n.vlen = y at *
        go_wp2_with fail
        refine hS'.mono ?_
        rintro e w6 ⟨rfl, b6⟩
        go_wp2_with fail
        go_ret
        rw [HR.out]
        exact ⟨rfl, hbw.trans (b6.mono hbw.size)⟩
      · rw [if_neg hv4] at hcc
        have HR := Lib.hid hcc
        have hi4 : ¬ (65535 : Int) < ((4 + n.vlen : Nat) : Int) := by omega
        clear hcc
        generalize 4 + n.vlen = y at *
        go_wp2_with fail
        refine hS'.mono ?_
        rintro e w6 ⟨rfl, b6⟩
        go_wp2_with fail
        go_ret
        rw [HR.out]
        exact ⟨rfl, hbw.trans (b6.mono hbw.size)⟩
end
theorem cnt_true {c : Int} {t : UInt16} (v : List UInt8) (h : ¬ (c = 2 ∧ t = 2)) : cntB c t v = true := by
  unfold cntB
  have : (decide (c = 2) && decide (t = 2)) = false := by
    rw [Bool.and_eq_false_iff]
    by_cases h1 : c = 2
    · right; exact decide_eq_false fun h2 => h ⟨h1, h2⟩
    · left; exact decide_eq_false h1
  rw [this]
  rfl
theorem eqb_t {t : UInt16} (h : t = 2) : ((t.toNat : Int) == 2) = true := by rw [h]; rfl
theorem eqb_f {t : UInt16} (h : ¬ t = 2) : ((t.toNat : Int) == 2) = false := by
  rw [beq_eq_false_iff_ne]
  intro e
  exact h (UInt16.toNat_inj.1 (by show t.toNat = 2; omega))
theorem rcheck_succ (f : Nat) (ih : RCheckOK f) : RCheckOK (f + 1) := by
  intro c n d A cc K kk w hd hc hN hf
  have hd4 : (d : Int) ≤ 4 := by omega
  have hkl := hf.kl
  have hvl := hf.vl
  have hve := n.vlen_eq
  have hO := rof_any c n.t
  simp only [rV_eq] at hO
  have hCt := fun W (hW : Below w.heap.size w W) => rcounted_any A cc W.heap.size n.v W (hN.on hW).data (by omega)
  unfold ndV
  cases hl : look (tab c) n.t with
  | none =>
    rw [hl] at hO
    have hF : formOf c n.t = zeroF := by unfold formOf; rw [hl]; rfl
    have hfk : fitK c n.t n.v.length = true := by unfold fitK; rw [hl]
    have hO' : ∀ W, Calls Tryz.prog 107 #[.int .i64 c, hv n.t] W fun e w' => e = .returned (.agg #[.int .i64 zeroF.cl, hv zeroF.ty, .string zeroF.nm, .int .i64 zeroF.lo, .int .i64 zeroF.hi, .int .i64 zeroF.un, .int .i64 zeroF.ki]) ∧ Below W.heap.size W w' := hO
    have hb0 := ins_b0 n.ks
    by_cases hk : n.ks.length = 0
    · have hib : insB (formOf c n.t).ki n.ks = true := by rw [hF]; show insB 0 n.ks = true; rw [hb0, hk]; rfl
      have hn2 : ¬ (c = 2 ∧ n.t = 2) := by
        rintro ⟨rfl, ht⟩
        obtain ⟨G, hG, _⟩ := look_two
        rw [ht, hG] at hl
        cases hl
      have hcd : chk (f + 1) c n = if fst0 (n.ks.map (chk f (ins (formOf c n.t).ki).1)) ≠ 0 then fst0 (n.ks.map (chk f (ins (formOf c n.t).ki).1)) else if 65531 < n.vlen then 4 else 0 := by
        rw [chk_succ, if_neg (by rw [hfk, hib]; simp), if_neg (by rw [cnt_true n.v hn2]; simp)]
      rw [hF] at hcd
      by_cases h2 : c = 2
      · exact rc_none_b f c n d A cc K kk w zeroF _ hO' hd4 hN ih hd hf _ (rinside_any zeroF.ki (by decide)) (fun h => absurd h (by omega)) hcd rfl (by decide) (by omega) (by rw [h2]; rfl) (eqb_f fun ht => hn2 ⟨h2, ht⟩)
      · exact rc_none_a f c n d A cc K kk w zeroF _ hO' hd4 hN ih hd hf _ (rinside_any zeroF.ki (by decide)) (fun h => absurd h (by omega)) hcd rfl (by decide) (by omega) (by simpa using h2)
    · have hib : insB (formOf c n.t).ki n.ks = false := by rw [hF]; show insB 0 n.ks = false; rw [hb0, beq_eq_false_iff_ne]; omega
      exact rc_none7 c n d A cc K kk w zeroF _ hO' hd4 hN rfl (by omega) (by rw [chk_succ, if_pos (.inr hib)])
  | some G =>
    rw [hl] at hO
    have hG := look_mem hl
    have hF := formOf_some hl
    have hcl := cl_tab hG
    have hki := ki_tab hG
    have hfk : fitK c n.t n.v.length = fitsB G (n.v.length : Int) := by unfold fitK; rw [hl]
    have h0 : (G.cl == 0) = false := by rw [hcl, beq_eq_false_iff_ne]; omega
    have h1 : (0 : Int) < G.cl := by rw [hcl]; omega
    have hO' : ∀ W, Calls Tryz.prog 107 #[.int .i64 c, hv n.t] W fun e w' => e = .returned (.agg #[.int .i64 G.cl, hv G.ty, .string G.nm, .int .i64 G.lo, .int .i64 G.hi, .int .i64 G.un, .int .i64 G.ki]) ∧ Below W.heap.size W w' := hO
    have hFt := rfits_any G (tame_tab hG) (n.v.length : Int)
    have hWt := fun W (hW : Below w.heap.size w W) => rwanted_any G hki K kk n.ks W (hN.on hW).kids (by omega)
    unfold Form.val at hFt hWt
    cases hfb : fitsB G (n.v.length : Int) with
    | false =>
      rw [hfb] at hFt hfk
      exact rc_fits7 c n d A cc K kk w G _ hO' hd4 hN hFt h0 h1 (by rw [chk_succ, if_pos (.inl hfk)])
    | true =>
      rw [hfb] at hFt hfk
      cases hib : insB G.ki n.ks with
      | false =>
        rw [hib] at hWt
        exact rc_want7 c n d A cc K kk w G _ hO' hd4 hN hFt hWt h0 h1 (by rw [chk_succ, hF, if_pos (.inr hib)])
      | true =>
        rw [hib] at hWt
        have h2s := ins_two hki hib
        have hc1 : 0 < n.ks.length → (ins G.ki).1 = 1 ∨ (ins G.ki).1 = 2 := fun h => by
          rcases h2s with h3 | h3
          · rw [h3] at h; exact absurd h (by simp)
          · exact h3
        have hcd : cntB c n.t n.v = true → chk (f + 1) c n = if fst0 (n.ks.map (chk f (ins G.ki).1)) ≠ 0 then fst0 (n.ks.map (chk f (ins G.ki).1)) else if 65531 < n.vlen then 4 else 0 := fun h => by
          rw [chk_succ, hF, if_neg (by rw [hfk, hib]; simp), if_neg (by rw [h]; simp)]
        by_cases h2 : c = 2
        · by_cases ht : n.t = 2
          · have hpar : n.v.length % 2 = 0 := by
              obtain ⟨G', hG', hlo, hun, _⟩ := look_two
              rw [h2, ht, hG'] at hl
              cases hl
              simp only [fitsB, Bool.and_eq_true, decide_eq_true_eq, beq_iff_eq] at hfb
              rw [hlo, hun] at hfb
              omega
            have hrc := rcB_eq hpar
            cases hcb : rcB n.v with
            | false =>
              rw [hcb] at hrc
              simp only [hcb] at hCt
              exact rc_count8 c n d A cc K kk w G _ hO' hd4 hN hFt hWt hCt h0 h1 (by rw [h2]; rfl) (eqb_t ht) (by rw [chk_succ, hF, if_neg (by rw [hfk, hib]; simp), if_pos (by rw [h2, ht]; exact hrc.symm)])
            | true =>
              rw [hcb] at hrc
              simp only [hcb] at hCt
              exact rc_some_c f c n d A cc K kk w G _ hO' hd4 hN ih hd hf _ (rinside_any G.ki hki) hc1 (hcd (by rw [h2, ht]; exact hrc.symm)) hFt hWt h0 h1 hCt (by rw [h2]; rfl) (eqb_t ht)
          · exact rc_some_b f c n d A cc K kk w G _ hO' hd4 hN ih hd hf _ (rinside_any G.ki hki) hc1 (hcd (cnt_true n.v fun h => ht h.2)) hFt hWt h0 h1 (by rw [h2]; rfl) (eqb_f ht)
        · exact rc_some_a f c n d A cc K kk w G _ hO' hd4 hN ih hd hf _ (rinside_any G.ki hki) hc1 (hcd (cnt_true n.v fun h => h2 h.1)) hFt hWt h0 h1 (by simpa using h2)
theorem rcheck_all : ∀ f, RCheckOK f
  | 0 => rcheck_zero
  | f + 1 => rcheck_succ f (rcheck_all f)
theorem rcheck1_any (c : Int) (hc : c = 1 ∨ c = 2) (n : Nd) (A : Option Addr) (cc : Nat) (K : Option Addr) (kk : Nat) (w : World) (hN : Node w w.heap.size A cc K kk n) (hf : Fine n) :
    Calls Tryz.prog 69 #[.int .i64 c, ndV n A cc K kk, .int .i64 1] w fun e w' => e = .returned (.int .i64 (chk 4 c n : Nat)) ∧ Below w.heap.size w w' := rcheck_all 4 c n 1 A cc K kk w rfl hc hN hf

set_option maxRecDepth 100000 in
theorem rall_any (c : Int) (hc : c = 1 ∨ c = 2) (A : Option Addr) (cc : Nat) (ns : List Nd) (w : World) (h : Nodes w w.heap.size A ns) (hn : ns.length ≤ 1000) (hf : ∀ n ∈ ns, Fine n) :
    Calls Tryz.prog 119 #[.int .i64 c, .slice A ns.length cc] w fun e w' => e = .returned (.int .i64 (chkL c ns : Nat)) ∧ Below w.heap.size w w' := by
  have HF := Lib.hid hf
  have HC := Lib.hid hc
  have HCC : Hid (chkL c ns = fst0 (ns.map (chk 4 c))) := rfl
  generalize hcode : chkL c ns = code at *
  clear hf hcode hc
  go_enter Tryz.func119, Tryz.ntmps119
  go_wp2_with fail
  go_loopw [5] (fun i wr => ∃ k : Nat, k ≤ ns.length ∧ i = .int .i64 k ∧ Hid (∀ (j y : Nat), j < k → (ns.map (chk 4 c))[j]? = some y → y = 0) ∧ Below w.heap.size w wr) (fun i _ => ns.length - (intOf i).toNat)
  case atStart => exact ⟨0, Nat.zero_le _, rfl, fun j y hj _ => by omega, Below.refl _ _⟩
  case round =>
    obtain ⟨k, hk, rfl, hz, hbel⟩ := hrel
    by_cases hlt : k < ns.length
    · obtain ⟨ad, A', c', K', k', m, rfl, hb, hm, hc0, hc1, hc2, hM⟩ := (h.bel hbel).at_ hlt
      have hS := rcheck1_any c HC.out m A' c' K' k' wr (hM.more hbel.size) (HF.out m (List.mem_of_getElem? hm.out))
      have HX : Hid ((ns.map (chk 4 c))[k]? = some (chk 4 c m)) := by rw [Hid, List.getElem?_map, hm.out]; rfl
      generalize chk 4 c m = x at *
      unfold ndV at hS
      by_cases hx : x = 0
      · have HZ : Hid (∀ (j y : Nat), j < k + 1 → (ns.map (chk 4 c))[j]? = some y → y = 0) := fun j y hj hy => by
          by_cases hjk : j = k
          · subst hjk
            rw [HX.out] at hy
            cases hy
            exact hx
          · exact hz.out j y (by omega) hy
        subst hx
        go_wp2_with fail
        refine hS.mono ?_
        rintro e w6 ⟨rfl, b6⟩
        go_wp2_with fail
        go_roundw
        case rel => exact ⟨k + 1, by omega, by go_num, HZ, hbel.trans (b6.mono hbel.size)⟩
        case measure => simp [intOf]; omega
      · have hxc : code = x := by rw [HCC.out, fst0_at HX.out hx hz.out]
        have hq : ((x : Int) != 0) = true := by rw [bne_iff_ne]; omega
        have HR := Lib.hid hxc
        clear hx hxc
        go_wp2_with fail
        refine hS.mono ?_
        rintro e w6 ⟨rfl, b6⟩
        go_wp2_with fail
        go_ret
        rw [HR.out]
        exact ⟨rfl, hbel.trans (b6.mono hbel.size)⟩
    · obtain rfl : k = ns.length := by omega
      have hxc : code = 0 := by rw [HCC.out, fst0_none (by intro j y hj hy; exact hz.out j y (by simpa using hj) hy)]
      have HR := Lib.hid hxc
      clear hxc
      go_wp2_with fail
      go_ret
      rw [HR.out]
      exact ⟨rfl, hbel⟩
end Go.Proofs.YteknmgmdmjmnmaaGreatDoor







namespace Go.Proofs.YteknmgmdmjmnmaaGreatDoor
open Go.ChangeShapes Go.WideShapes Go.ChangeAt Go.RowKit

/-! ### few nodes have few bytes -/
def sb : List Nd → Nat
  | [] => 0
  | x :: l => (7 + x.vlen) + sb l
theorem sizes_sb (l : List Nd) : sizes (lens l) ≤ sb l := by
  have h : ∀ (l : List Nd) (s : Nat), (lens l).foldl (fun s n => up s + n) s ≤ s + sb l := by
    intro l
    induction l with
    | nil => intro s; simp [lens, sb]
    | cons x l ih =>
      intro s
      have h1 := ih (up s + (4 + x.vlen))
      have h2 : up s ≤ s + 3 := by unfold up gap; omega
      simp only [lens, List.foldl_cons, sb]
      omega
  have := h l 0
  simpa [sizes] using this
theorem sb_mem {l : List Nd} {x : Nd} (h : x ∈ l) : x.vlen ≤ sb l := by
  induction l with
  | nil => cases h
  | cons y l ih =>
    unfold sb
    rcases List.mem_cons.1 h with rfl | h
    · omega
    · have := ih h; omega
theorem cl_bytes (g : Nd → Nat) : ∀ (l : List Nd) (n : Nat), cl g n l ≤ 200 → (∀ x ∈ l, g x ≤ 200 → sizes (lens x.ks) ≤ 1007 * g x) → 1007 * n + sb l ≤ 1007 * cl g n l
  | [], n, _, _ => by simp [cl, sb]
  | x :: l, n, h, hg => by
    have h0 := (cl_few g (x :: l) n h).2 x (by simp)
    have h1 := hg x (by simp) h0.1
    have h2 := x.vlen_eq
    unfold cl at h ⊢
    split at h
    · rename_i hn
      rw [if_pos hn]
      have h3 := cl_bytes g l _ h fun y hy => hg y (by simp [hy])
      unfold sb
      omega
    · rename_i hn
      omega
theorem few_bytes : ∀ (f : Nat) (l : List Nd), cnt f l ≤ 200 → sb l ≤ 1007 * cnt f l
  | 0, l, h => by simp [cnt] at h
  | f + 1, l, h => by
    unfold cnt at h ⊢
    have := cl_bytes _ l 0 h fun x _ hx => Nat.le_trans (sizes_sb x.ks) (few_bytes f x.ks hx)
    omega
theorem few_fine : ∀ (f : Nat) (l : List Nd), cnt f l ≤ 200 → l.length ≤ 200 ∧ sizes (lens l) ≤ 201400 ∧ ∀ x ∈ l, Fine x
  | 0, l, h => by simp [cnt] at h
  | f + 1, l, h => by
    have hb := few_bytes (f + 1) l h
    have hs := sizes_sb l
    have hs2 : sb l ≤ 201400 := by omega
    refine ⟨(few_of (f + 1) l h).1, by omega, fun x hx => ?_⟩
    have hv := sb_mem hx
    unfold cnt at h
    obtain ⟨_, h2⟩ := cl_few _ l 0 h
    obtain ⟨h3, _, h4⟩ := few_fine f x.ks (h2 x hx).1
    exact .mk (by omega) (by omega) h4
/-! ### right -/
end Go.Proofs.YteknmgmdmjmnmaaGreatDoor


