/- Layer 13: the reference's Split. It writes nothing that was there. -/
import Derived.Test.YtdcppcoldaaldaaGreatDoorQDT
import Derived.Test.YtdcppcoldaaldaaGreatDoorQDP
import Derived.BigGuard



namespace Go.Proofs.YtdcppcoldaaldaaGreatDoor
open Go.RowKit

set_option linter.unusedSimpArgs false
section
variable {P : Program} (w : World)
theorem run_append_wide13 (base : Nat) (t ty e : TypeId) (z : Value) (size bytes : Nat) (ht : P.underlying t = some (.slice e)) (hi : (P.info? e).map (fun i => (i.zero, i.size, i.bytes)) = some (some z, size, bytes))
    (hzs : z.cells.size = size) (hsz : 0 < size) (v : Value) (n : Nat) (xs : List Value) (hown : w.ownsRow base e size v n xs)
    (B : Nat) (A : Option Addr) (m c : Nat) (news : List Value) (hm : news.length = m * size) (hl : Lies w B A news) (h1 : ∀ u ∈ news, u.oneCell' = true)
    (hbytes : (n + m) * bytes ≤ 140737488355328) (h63 : n + m ≤ maxLen) (hbase : base ≤ w.heap.size) :
    ∃ v' w', (Builtin.append_ #[t, t] ty #[v, .slice A m c]).run P w = .ok v' w' ∧ w'.ownsRow base e size v' (n + m) (xs ++ news) ∧ w.grownBy w' v.ownBlock := by
  obtain ⟨i, hi0, hi1, hi2, hi3⟩ := info_parts hi
  by_cases hm0 : m = 0
  · subst hm0
    have hn : news = [] := List.eq_nil_of_length_eq_zero (by simpa using hm)
    subst hn
    rcases A with _ | ad
    · refine ⟨v, w, ?_, by simpa using hown, World.grownBy.refl w _⟩
      rcases hown.2 with ⟨rfl, rfl⟩ | ⟨g, cap, cur, rfl, _, _, hnc, _⟩
      · simp [Builtin.append_, run_underlying ht, sizeOf, typeInfo, hi0, Builtin.lenOf, Builtin.firstCells]
      · simp [Builtin.append_, run_underlying ht, sizeOf, typeInfo, hi0, Builtin.lenOf, Builtin.firstCells, hnc, storeCells]
    · obtain ⟨v', w', hr, h2, h3, _⟩ := run_append_own w base t ty e i z size bytes ht hi0 hi1 hi2 hi3 hzs hsz v n xs hown ad 0 c [] (by simp) (fun j u hu => by simp at hu) h1 h63 hbytes hbase
      exact ⟨v', w', hr, h2, h3⟩
  · have hne : news ≠ [] := fun e => by
      subst e
      have : 0 < m * size := Nat.mul_pos (by omega) hsz
      simp at hm
      omega
    obtain ⟨ad, rfl, _, hc⟩ := hl hne
    obtain ⟨v', w', hr, h2, h3, _⟩ := run_append_own w base t ty e i z size bytes ht hi0 hi1 hi2 hi3 hzs hsz v n xs hown ad m c news hm hc h1 h63 hbytes hbase
    exact ⟨v', w', hr, h2, h3⟩
theorem wpList_append_wide13 {ops : Array Oper} {rest : List Oper} {o : Oper} {a : Act} {Q : Exit → Act → World → Prop} (hgd : o.guard = none) (s x : Operand) (t : TypeId)
    (ho : o.op = .call { callee := .builtin .append, args := #[s, x], argTypes := #[t, t] })
    (base : Nat) (e : TypeId) (z : Value) (size bytes : Nat) (ht : P.underlying t = some (.slice e)) (hi : (P.info? e).map (fun i => (i.zero, i.size, i.bytes)) = some (some z, size, bytes))
    (hzs : z.cells.size = size) (hsz : 0 < size) (v : Value) (n : Nat) (xs : List Value) (hs : a.eval s = v) (hown : w.ownsRow base e size v n xs)
    (B : Nat) (A : Option Addr) (m c : Nat) (news : List Value) (hx : a.eval x = .slice A m c) (hm : news.length = m * size) (hl : Lies w B A news) (h1 : ∀ u ∈ news, u.oneCell' = true)
    (hbytes : (n + m) * bytes ≤ 140737488355328) (h63 : n + m ≤ maxLen) (hbase : base ≤ w.heap.size)
    (h : ∀ v' w', w'.ownsRow base e size v' (n + m) (xs ++ news) → w.grownBy w' v.ownBlock → wpList P ops Q rest (a.put o.dst v') w') : wpList P ops Q (o :: rest) a w :=
  wpList_plain hgd fun K hK => by
    obtain ⟨v', w', hr, h2, h3⟩ := run_append_wide13 (P := P) w base t o.type e z size bytes ht hi hzs hsz v n xs hown B A m c news hm hl h1 hbytes h63 hbase
    unfold Oper.wp execOp
    simp only [ho, resolve, invoke, builtin, Sem.run_bind, Sem.run_pure, Result.andThen_ok, List.map_toArray, List.map_cons, List.map_nil, hs, hx, hr]
    exact hK _ _ (h v' w' h2 h3)
end
theorem rpinfo : (Tryz.prog.info? 26).map (fun i => (i.zero, i.size, i.bytes)) = some (some (.agg #[.bool false, .int .u32 0, .int .u16 0, .int .u32 0, .int .u32 0, .bool false, .bool false, .bool false, .bool false, .slice none 0 0]), 10, 48) := by kernel_rfl
def pmK (p : Pt) (A : Option Addr) (c n j : Nat) : Pm := ⟨pieceP p n j, A.map (·.add (j * n)), c - j * n⟩
def pmsK (p : Pt) (A : Option Addr) (c n k : Nat) : List Pm := (List.range k).map (pmK p A c n)
theorem pmsK_snoc (p : Pt) (A : Option Addr) (c n k : Nat) : pmsK p A c n (k + 1) = pmsK p A c n k ++ [pmK p A c n k] := by simp [pmsK, List.range_succ]
theorem pmsK_len (p : Pt) (A : Option Addr) (c n k : Nat) : (pmsK p A c n k).length = k := by simp [pmsK]
theorem row_piece (p : Pt) (n k a m c : Nat) (ad : Addr) (ha : a = k * n) (hm : m = min n (p.us.length - a)) (hn : 1 ≤ n) (pr : Value) (hpr : pr = uv (if p.inter = true ∧ 0 < k then UInt32.ofNat k else p.pr)) :
    #[.bool p.inter, .int .u32 (((p.tsn.toNat : Int) + (k : Int)) % 4294967296), hv p.st, uv p.sq, pr, .bool ((a : Int) == 0), .bool (decide ((p.us.length : Int) ≤ (a : Int) + (n : Int))), .bool p.un, .bool p.nw, .slice (some (ad.add a)) m (c - a)] = ptCells (pieceP p n k) (some (ad.add a)) (c - a) := by
  have e1 : Value.int .u32 (((p.tsn.toNat : Int) + (k : Int)) % 4294967296) = uv (p.tsn + UInt32.ofNat k) := by
    rw [uv, UInt32.toNat_add, UInt32.toNat_ofNat']
    congr 1
    omega
  have hkn : (k + 1) * n = k * n + n := Nat.succ_mul k n
  have hkz : k * n = 0 ↔ k = 0 := by rw [Nat.mul_eq_zero]; omega
  have e5 : ((a : Int) == 0) = decide (k = 0) := by
    rw [Bool.eq_iff_iff, beq_iff_eq, decide_eq_true_eq]
    omega
  have e6 : decide ((p.us.length : Int) ≤ (a : Int) + (n : Int)) = decide (p.us.length ≤ (k + 1) * n) := by
    rw [Bool.eq_iff_iff, decide_eq_true_eq, decide_eq_true_eq]
    omega
  have e9 : m = (pieceP p n k).us.length := by rw [pieceP_len, hm, ha]
  rw [e1, e5, e6, hpr, e9]
  rfl
set_option maxRecDepth 100000 in
set_option maxHeartbeats 8000000 in
theorem rsplit13_any (p : Pt) (A : Option Addr) (c n : Nat) (hn1 : 1 ≤ n) (hn2 : n ≤ 1000000) (hl : p.us.length ≤ 1000000) (w : World) (hp : PtL w w.heap.size A c p) : Calls Tryz.prog 85 #[ptV p A c, .int .i64 (n : Int)] w (SplR (splP p n) w) := by
  have b0 : Below w.heap.size w (w.alloc (.cells (ptCells p A c) 26)) := (Below.refl _ w).alloc (Nat.le_refl _) _
  have x0 := Whole.new w 26 (ptCells p A c)
  have hs0 : w.heap.size + 1 ≤ (w.alloc (.cells (ptCells p A c) 26)).heap.size := by simp
  have hp0 := hp.on b0
  have HP := Lib.hid hp
  go_enter Tryz.func85, Tryz.ntmps85
  go_upto_region 3 with fail
  generalize w.alloc (.cells (ptCells p A c) 26) = wa at *
  have hdc := hp.dc
  have hdm := hp.dm
  clear hp
  go_loopw [5, 6] (fun out i wr => ∃ (k : Nat) (Ao : Option Addr) (co : Nat), i = .int .i64 ((k * n : Nat) : Int) ∧ out = .slice Ao k co ∧ wr.ownsRow wa.heap.size 26 10 (.slice Ao k co) k (pmFlat (pmsK p A c n k)) ∧ Below wa.heap.size wa wr ∧ ∀ j, j < k → j * n < p.us.length) (fun _ i _ => p.us.length + n - (intOf i).toNat)
  case atStart => exact ⟨0, none, 0, by simp, rfl, World.ownsRow_nil _ _ _ _, Below.refl _ _, fun j hj => by omega⟩
  case round =>
    obtain ⟨k, Ao, co, rfl, rfl, hown, hbel, hks⟩ := hrel
    have hx := x0.below hbel (by omega)
    obtain ⟨q0, q1, q2, q3, q4, q5, q6, q7, q8, q9⟩ := hx.cs10
    have hkn : (k + 1) * n = k * n + n := Nat.succ_mul k n
    have hkk : k ≤ k * n := Nat.le_mul_of_pos_right k (by omega)
    have HKS := Lib.hid hks
    clear hks
    by_cases hlt : k * n < p.us.length
    · have hlti : ((k * n : Nat) : Int) < (p.us.length : Int) := by omega
      obtain ⟨a, ha⟩ : ∃ a, a = k * n := ⟨_, rfl⟩
      have HA := Lib.hid ha
      rw [← ha] at hlt hlti hkn hkk ⊢
      clear ha
      obtain ⟨ad, rfl, hadb, hadc⟩ := HP.out.data (fun e => by rw [List.map_eq_nil_iff] at e; rw [e] at hlt; simp at hlt)
      have HO := Lib.hid hown
      clear hown
      go_upto_region 6 with fail
      have v1 : Below wr.heap.size wr (wr.alloc (.cells (ptCells p (some ad) c) 26)) := (Below.refl _ _).alloc (Nat.le_refl _) _
      have x1 := Whole.new wr 26 (ptCells p (some ad) c)
      have o1 := HO.out.alloc (.cells (ptCells p (some ad) c) 26)
      have B1 := hbel.trans (v1.mono hbel.size)
      have hx1 := hx.below v1 hx.lt
      have hg7 : wa.heap.size ≤ wr.heap.size := hbel.size
      generalize wr.alloc (.cells (ptCells p (some ad) c) 26) = w3 at *
      generalize hgg : wr.heap.size = g7 at *
      have hne7 : (Value.slice Ao k co).ownBlock ≠ some g7 := fun e => by have := HO.out.lt g7 e; omega
      clear q0 q1 q2 q3 q4 q5 q6 q7 q8 q9
      obtain ⟨q0, q1, q2, q3, q4, q5, q6, q7, q8, q9⟩ := hx1.cs10
      obtain ⟨m0, m1, m2, m3, m4, m5, m6, m7, m8, m9⟩ := x1.cs10
      have f1 := x1.frozen 1
      clear v1 hx x0 hbel b0
      go_upto_region 7 with fail
      have x4 : Whole (w3.setCell ⟨g7, 1, none⟩ (.int .u32 (((p.tsn.toNat : Int) + (k : Int)) % 4294967296))) g7 26 #[.bool p.inter, .int .u32 (((p.tsn.toNat : Int) + (k : Int)) % 4294967296), hv p.st, uv p.sq, uv p.pr, .bool p.bg, .bool p.en, .bool p.un, .bool p.nw, .slice (some ad) p.us.length c] := x1.set_ 1 _
      have o4 := o1.kept (grownBy_setCell1 w3 g7 1 (.int .u32 (((p.tsn.toNat : Int) + (k : Int)) % 4294967296))) (.inr hne7)
      have B4 : Below wa.heap.size wa (w3.setCell ⟨g7, 1, none⟩ (.int .u32 (((p.tsn.toNat : Int) + (k : Int)) % 4294967296))) := B1.setCell (p := ⟨g7, 1, none⟩) hg7 _
      have h4 := hx1.below ((Below.refl g7 w3).setCell (p := ⟨g7, 1, none⟩) (Nat.le_refl g7) (.int .u32 (((p.tsn.toNat : Int) + (k : Int)) % 4294967296))) (by omega)
      generalize w3.setCell ⟨g7, 1, none⟩ (.int .u32 (((p.tsn.toNat : Int) + (k : Int)) % 4294967296)) = w4 at *
      clear x1 o1 B1 hx1 q0 q1 q2 q3 q4 q5 q6 q7 q8 q9 m0 m1 m2 m3 m4 m5 m6 m7 m8 m9 f1
      obtain ⟨q0, q1, q2, q3, q4, q5, q6, q7, q8, q9⟩ := h4.cs10
      obtain ⟨m0, m1, m2, m3, m4, m5, m6, m7, m8, m9⟩ := x4.cs10
      have f5 := x4.frozen 5
      go_upto_region 8 with fail
      have x5 : Whole (w4.setCell ⟨g7, 5, none⟩ (.bool ((a : Int) == 0))) g7 26 #[.bool p.inter, .int .u32 (((p.tsn.toNat : Int) + (k : Int)) % 4294967296), hv p.st, uv p.sq, uv p.pr, .bool ((a : Int) == 0), .bool p.en, .bool p.un, .bool p.nw, .slice (some ad) p.us.length c] := x4.set_ 5 _
      have o5 := o4.kept (grownBy_setCell1 w4 g7 5 (.bool ((a : Int) == 0))) (.inr hne7)
      have B5 : Below wa.heap.size wa (w4.setCell ⟨g7, 5, none⟩ (.bool ((a : Int) == 0))) := B4.setCell (p := ⟨g7, 5, none⟩) hg7 _
      have h5 := h4.below ((Below.refl g7 w4).setCell (p := ⟨g7, 5, none⟩) (Nat.le_refl g7) (.bool ((a : Int) == 0))) (by omega)
      generalize w4.setCell ⟨g7, 5, none⟩ (.bool ((a : Int) == 0)) = w5 at *
      clear x4 o4 B4 h4 q0 q1 q2 q3 q4 q5 q6 q7 q8 q9 m0 m1 m2 m3 m4 m5 m6 m7 m8 m9 f5
      obtain ⟨q0, q1, q2, q3, q4, q5, q6, q7, q8, q9⟩ := h5.cs10
      obtain ⟨m0, m1, m2, m3, m4, m5, m6, m7, m8, m9⟩ := x5.cs10
      have f6 := x5.frozen 6
      go_upto_region 9 with fail
      have x6 : Whole (w5.setCell ⟨g7, 6, none⟩ (.bool (decide ((p.us.length : Int) ≤ (a : Int) + (n : Int))))) g7 26 #[.bool p.inter, .int .u32 (((p.tsn.toNat : Int) + (k : Int)) % 4294967296), hv p.st, uv p.sq, uv p.pr, .bool ((a : Int) == 0), .bool (decide ((p.us.length : Int) ≤ (a : Int) + (n : Int))), .bool p.un, .bool p.nw, .slice (some ad) p.us.length c] := x5.set_ 6 _
      have o6 := o5.kept (grownBy_setCell1 w5 g7 6 (.bool (decide ((p.us.length : Int) ≤ (a : Int) + (n : Int))))) (.inr hne7)
      have B6 : Below wa.heap.size wa (w5.setCell ⟨g7, 6, none⟩ (.bool (decide ((p.us.length : Int) ≤ (a : Int) + (n : Int))))) := B5.setCell (p := ⟨g7, 6, none⟩) hg7 _
      have h6 := h5.below ((Below.refl g7 w5).setCell (p := ⟨g7, 6, none⟩) (Nat.le_refl g7) (.bool (decide ((p.us.length : Int) ≤ (a : Int) + (n : Int))))) (by omega)
      generalize w5.setCell ⟨g7, 6, none⟩ (.bool (decide ((p.us.length : Int) ≤ (a : Int) + (n : Int)))) = w6 at *
      clear x5 o5 B5 h5 q0 q1 q2 q3 q4 q5 q6 q7 q8 q9 m0 m1 m2 m3 m4 m5 m6 m7 m8 m9 f6
      obtain ⟨q0, q1, q2, q3, q4, q5, q6, q7, q8, q9⟩ := h6.cs10
      obtain ⟨m0, m1, m2, m3, m4, m5, m6, m7, m8, m9⟩ := x6.cs10
      have f9 := x6.frozen 9
      obtain ⟨m, hm⟩ : ∃ m, m = min n (p.us.length - a) := ⟨_, rfl⟩
      have hm1 : a + m ≤ p.us.length := by omega
      have hm2 : m ≤ n := by omega
      have HM := Lib.hid hm
      have hmin : min ((a : Int) + (n : Int)) (p.us.length : Int) = ((a + m : Nat) : Int) := by omega
      clear hm
      have hs1 : ((a : Nat) : Int) ≤ ((a + m : Nat) : Int) := by omega
      have hs2 : ((a + m : Nat) : Int) ≤ (c : Int) := by omega
      have hs3 : ¬ c = a := by omega
      go_upto_region 10 with fail
      have x7 : Whole (w6.setCell ⟨g7, 9, none⟩ (.slice (some (ad.add a)) m (c - a))) g7 26 #[.bool p.inter, .int .u32 (((p.tsn.toNat : Int) + (k : Int)) % 4294967296), hv p.st, uv p.sq, uv p.pr, .bool ((a : Int) == 0), .bool (decide ((p.us.length : Int) ≤ (a : Int) + (n : Int))), .bool p.un, .bool p.nw, .slice (some (ad.add a)) m (c - a)] := x6.set_ 9 _
      have o7 := o6.kept (grownBy_setCell1 w6 g7 9 (.slice (some (ad.add a)) m (c - a))) (.inr hne7)
      have B7 : Below wa.heap.size wa (w6.setCell ⟨g7, 9, none⟩ (.slice (some (ad.add a)) m (c - a))) := B6.setCell (p := ⟨g7, 9, none⟩) hg7 _
      have h7 := h6.below ((Below.refl g7 w6).setCell (p := ⟨g7, 9, none⟩) (Nat.le_refl g7) (.slice (some (ad.add a)) m (c - a))) (by omega)
      generalize w6.setCell ⟨g7, 9, none⟩ (.slice (some (ad.add a)) m (c - a)) = w7 at *
      clear x6 o6 B6 h6 q0 q1 q2 q3 q4 q5 q6 q7 q8 q9 m0 m1 m2 m3 m4 m5 m6 m7 m8 m9 f9
      obtain ⟨q0, q1, q2, q3, q4, q5, q6, q7, q8, q9⟩ := h7.cs10
      obtain ⟨m0, m1, m2, m3, m4, m5, m6, m7, m8, m9⟩ := x7.cs10
      cases hin : p.inter with
      | false =>
        have hin0 := Lib.hid hin
        rw [hin] at q0
        clear hin
        go_upto_region 12 with fail
        have xR := x7
        rw [row_piece p n k a m c ad HA.out HM.out hn1 _ (by rw [hin0.out]; simp)] at xR
        clear q0 q1 q2 q3 q4 q5 q6 q7 q8 q9 m0 m1 m2 m3 m4 m5 m6 m7 m8 m9
        obtain ⟨m0, m1, m2, m3, m4, m5, m6, m7, m8, m9⟩ := xR.cs10
        have hsz : wa.heap.size ≤ w7.heap.size := B7.size
        have v9 : Below w7.heap.size w7 (w7.alloc (.cells (ptCells (pieceP p n k) (some (ad.add a)) (c - a)) 26)) := (Below.refl _ _).alloc (Nat.le_refl _) _
        have hnew : Lies (w7.alloc (.cells (ptCells (pieceP p n k) (some (ad.add a)) (c - a)) 26)) (w7.heap.size + 1) (some ⟨w7.heap.size, 0, none⟩) (ptCells (pieceP p n k) (some (ad.add a)) (c - a)).toList := Lies.newN w7 (ptCells (pieceP p n k) (some (ad.add a)) (c - a)).toList 26
        have hone : ∀ u ∈ (ptCells (pieceP p n k) (some (ad.add a)) (c - a)).toList, u.oneCell' = true := by
          intro u hu
          simp only [List.mem_cons, List.not_mem_nil, or_false] at hu
          rcases hu with rfl | rfl | rfl | rfl | rfl | rfl | rfl | rfl | rfl | rfl <;> rfl
        have hkb : k ≤ 1000000 := by omega
        go_wp2_with (at_builtin; refine wpList_append_wide13 _ rfl (.tmp 57) (.tmp 59) 43 rfl wa.heap.size 26 _ 10 48 Tryz.underlying43 rpinfo rfl (by omega) _ _ _ rfl (o7.alloc _) _ _ 1 1 (ptCells (pieceP p n k) (some (ad.add a)) (c - a)).toList rfl rfl hnew hone (by omega) (by unfold maxLen; omega) (by simp; omega) ?_; intro v' w9 hown9 hgr9; obtain ⟨A9, c9, rfl⟩ := own_slice hown9)
        have B9 : Below wa.heap.size wa w9 := (B7.trans (v9.mono hsz)).grown hgr9 (by simp; omega) (fun r e => (o7.lt r e).1)
        have hown9' : w9.ownsRow wa.heap.size 26 10 (.slice A9 (k + 1) c9) (k + 1) (pmFlat (pmsK p (some ad) c n (k + 1))) := by
          rw [pmsK_snoc, pmFlat_snoc]
          have e : (pmK p (some ad) c n k) = ⟨pieceP p n k, some (ad.add a), c - a⟩ := by unfold pmK; rw [HA.out]; rfl
          rw [e]
          exact hown9
        have H9 := Lib.hid hown9'
        clear hown9 hown9' hgr9 xR x7 o7 hnew hone v9 m0 m1 m2 m3 m4 m5 m6 m7 m8 m9
        go_wp2_with fail
        go_roundw
        case rel => exact ⟨k + 1, A9, c9, by rw [hkn]; go_num, rfl, H9.out, B9, fun j hj => by
            rcases Nat.lt_succ_iff_lt_or_eq.1 hj with h | h
            · exact HKS.out j h
            · rw [h, ← HA.out]; exact hlt⟩
        case measure => simp [intOf]; omega
      | true =>
        have hin0 := Lib.hid hin
        rw [hin] at q0
        clear hin
        by_cases ha0 : 0 < a
        · have hai : (0 : Int) < (a : Int) := by omega
          have hk0 : 0 < k := by rcases Nat.eq_zero_or_pos k with h | h; · have := HA.out; rw [h] at this; omega
                                 · exact h
          have f4 := x7.frozen 4
          go_upto_region 12 with fail
          have x8 : Whole (w7.setCell ⟨g7, 4, none⟩ (.int .u32 (k : Int))) g7 26 #[.bool p.inter, .int .u32 (((p.tsn.toNat : Int) + (k : Int)) % 4294967296), hv p.st, uv p.sq, .int .u32 (k : Int), .bool ((a : Int) == 0), .bool (decide ((p.us.length : Int) ≤ (a : Int) + (n : Int))), .bool p.un, .bool p.nw, .slice (some (ad.add a)) m (c - a)] := x7.set_ 4 _
          have o8 := o7.kept (grownBy_setCell1 w7 g7 4 (.int .u32 (k : Int))) (.inr hne7)
          have B8 : Below wa.heap.size wa (w7.setCell ⟨g7, 4, none⟩ (.int .u32 (k : Int))) := B7.setCell (p := ⟨g7, 4, none⟩) hg7 _
          have h8 := h7.below ((Below.refl g7 w7).setCell (p := ⟨g7, 4, none⟩) (Nat.le_refl g7) (.int .u32 (k : Int))) (by omega)
          generalize w7.setCell ⟨g7, 4, none⟩ (.int .u32 (k : Int)) = w8 at *
          clear x7 o7 B7 h7 q0 q1 q2 q3 q4 q5 q6 q7 q8 q9 m0 m1 m2 m3 m4 m5 m6 m7 m8 m9 f4
          obtain ⟨q0, q1, q2, q3, q4, q5, q6, q7, q8, q9⟩ := h8.cs10
          obtain ⟨m0, m1, m2, m3, m4, m5, m6, m7, m8, m9⟩ := x8.cs10
          have xR := x8
          rw [row_piece p n k a m c ad HA.out HM.out hn1 _ (by rw [hin0.out, if_pos ⟨rfl, hk0⟩, uv, UInt32.toNat_ofNat']; congr 1; omega)] at xR
          clear q0 q1 q2 q3 q4 q5 q6 q7 q8 q9 m0 m1 m2 m3 m4 m5 m6 m7 m8 m9
          obtain ⟨m0, m1, m2, m3, m4, m5, m6, m7, m8, m9⟩ := xR.cs10
          have hsz : wa.heap.size ≤ w8.heap.size := B8.size
          have v9 : Below w8.heap.size w8 (w8.alloc (.cells (ptCells (pieceP p n k) (some (ad.add a)) (c - a)) 26)) := (Below.refl _ _).alloc (Nat.le_refl _) _
          have hnew : Lies (w8.alloc (.cells (ptCells (pieceP p n k) (some (ad.add a)) (c - a)) 26)) (w8.heap.size + 1) (some ⟨w8.heap.size, 0, none⟩) (ptCells (pieceP p n k) (some (ad.add a)) (c - a)).toList := Lies.newN w8 (ptCells (pieceP p n k) (some (ad.add a)) (c - a)).toList 26
          have hone : ∀ u ∈ (ptCells (pieceP p n k) (some (ad.add a)) (c - a)).toList, u.oneCell' = true := by
            intro u hu
            simp only [List.mem_cons, List.not_mem_nil, or_false] at hu
            rcases hu with rfl | rfl | rfl | rfl | rfl | rfl | rfl | rfl | rfl | rfl <;> rfl
          have hkb : k ≤ 1000000 := by omega
          go_wp2_with (at_builtin; refine wpList_append_wide13 _ rfl (.tmp 57) (.tmp 59) 43 rfl wa.heap.size 26 _ 10 48 Tryz.underlying43 rpinfo rfl (by omega) _ _ _ rfl (o8.alloc _) _ _ 1 1 (ptCells (pieceP p n k) (some (ad.add a)) (c - a)).toList rfl rfl hnew hone (by omega) (by unfold maxLen; omega) (by simp; omega) ?_; intro v' w9 hown9 hgr9; obtain ⟨A9, c9, rfl⟩ := own_slice hown9)
          have B9 : Below wa.heap.size wa w9 := (B8.trans (v9.mono hsz)).grown hgr9 (by simp; omega) (fun r e => (o8.lt r e).1)
          have hown9' : w9.ownsRow wa.heap.size 26 10 (.slice A9 (k + 1) c9) (k + 1) (pmFlat (pmsK p (some ad) c n (k + 1))) := by
            rw [pmsK_snoc, pmFlat_snoc]
            have e : (pmK p (some ad) c n k) = ⟨pieceP p n k, some (ad.add a), c - a⟩ := by unfold pmK; rw [HA.out]; rfl
            rw [e]
            exact hown9
          have H9 := Lib.hid hown9'
          clear hown9 hown9' hgr9 xR x8 o8 hnew hone v9 m0 m1 m2 m3 m4 m5 m6 m7 m8 m9
          go_wp2_with fail
          go_roundw
          case rel => exact ⟨k + 1, A9, c9, by rw [hkn]; go_num, rfl, H9.out, B9, fun j hj => by
              rcases Nat.lt_succ_iff_lt_or_eq.1 hj with h | h
              · exact HKS.out j h
              · rw [h, ← HA.out]; exact hlt⟩
          case measure => simp [intOf]; omega
        · have hai : ¬ (0 : Int) < (a : Int) := by omega
          have hk0 : k = 0 := by have := HA.out; rcases Nat.eq_zero_or_pos k with h | h; · exact h
                                 · have := Nat.le_mul_of_pos_left n h; omega
          have hk1 := Lib.hid hk0
          clear hk0
          go_upto_region 12 with fail
          have xR := x7
          rw [row_piece p n k a m c ad HA.out HM.out hn1 _ (by rw [if_neg (by have := hk1.out; omega)])] at xR
          clear q0 q1 q2 q3 q4 q5 q6 q7 q8 q9 m0 m1 m2 m3 m4 m5 m6 m7 m8 m9
          obtain ⟨m0, m1, m2, m3, m4, m5, m6, m7, m8, m9⟩ := xR.cs10
          have hsz : wa.heap.size ≤ w7.heap.size := B7.size
          have v9 : Below w7.heap.size w7 (w7.alloc (.cells (ptCells (pieceP p n k) (some (ad.add a)) (c - a)) 26)) := (Below.refl _ _).alloc (Nat.le_refl _) _
          have hnew : Lies (w7.alloc (.cells (ptCells (pieceP p n k) (some (ad.add a)) (c - a)) 26)) (w7.heap.size + 1) (some ⟨w7.heap.size, 0, none⟩) (ptCells (pieceP p n k) (some (ad.add a)) (c - a)).toList := Lies.newN w7 (ptCells (pieceP p n k) (some (ad.add a)) (c - a)).toList 26
          have hone : ∀ u ∈ (ptCells (pieceP p n k) (some (ad.add a)) (c - a)).toList, u.oneCell' = true := by
            intro u hu
            simp only [List.mem_cons, List.not_mem_nil, or_false] at hu
            rcases hu with rfl | rfl | rfl | rfl | rfl | rfl | rfl | rfl | rfl | rfl <;> rfl
          have hkb : k ≤ 1000000 := by omega
          go_wp2_with (at_builtin; refine wpList_append_wide13 _ rfl (.tmp 57) (.tmp 59) 43 rfl wa.heap.size 26 _ 10 48 Tryz.underlying43 rpinfo rfl (by omega) _ _ _ rfl (o7.alloc _) _ _ 1 1 (ptCells (pieceP p n k) (some (ad.add a)) (c - a)).toList rfl rfl hnew hone (by omega) (by unfold maxLen; omega) (by simp; omega) ?_; intro v' w9 hown9 hgr9; obtain ⟨A9, c9, rfl⟩ := own_slice hown9)
          have B9 : Below wa.heap.size wa w9 := (B7.trans (v9.mono hsz)).grown hgr9 (by simp; omega) (fun r e => (o7.lt r e).1)
          have hown9' : w9.ownsRow wa.heap.size 26 10 (.slice A9 (k + 1) c9) (k + 1) (pmFlat (pmsK p (some ad) c n (k + 1))) := by
            rw [pmsK_snoc, pmFlat_snoc]
            have e : (pmK p (some ad) c n k) = ⟨pieceP p n k, some (ad.add a), c - a⟩ := by unfold pmK; rw [HA.out]; rfl
            rw [e]
            exact hown9
          have H9 := Lib.hid hown9'
          clear hown9 hown9' hgr9 xR x7 o7 hnew hone v9 m0 m1 m2 m3 m4 m5 m6 m7 m8 m9
          go_wp2_with fail
          go_roundw
          case rel => exact ⟨k + 1, A9, c9, by rw [hkn]; go_num, rfl, H9.out, B9, fun j hj => by
              rcases Nat.lt_succ_iff_lt_or_eq.1 hj with h | h
              · exact HKS.out j h
              · rw [h, ← HA.out]; exact hlt⟩
          case measure => simp [intOf]; omega
    · have hlti : ¬ ((k * n : Nat) : Int) < (p.us.length : Int) := by omega
      go_wp2_with fail
      go_ret
      have hmp := map_pieces p n (xs := List.range k) (by simp) (by rw [List.length_range]; omega) (by rw [List.length_range]; exact HKS.out) hn1
      have hB := b0.trans (hbel.mono b0.size)
      have hlen : (splP p n).length = k := by rw [← hmp]; simp
      have hcap := own_capW hown
      refine ⟨hB, Ao, co, pmsK p A c n k, by rw [hlen]; rfl, ?_, ⟨fun hne => ?_, fun m hm => ?_, by rw [pmsK_len]; exact hcap.1, hcap.2⟩⟩
      · rw [← hmp, pmsK, List.map_map]; rfl
      · rcases hown.2 with ⟨_, h2⟩ | ⟨g, cap, cur, h1, _, h3, _⟩
        · refine absurd (List.eq_nil_of_length_eq_zero ?_) hne
          rw [pmFlat_len, pmsK_len, h2]
        · simp only [Value.slice.injEq] at h1
          obtain ⟨rfl, _, _⟩ := h1
          exact ⟨_, rfl, (Array.getElem?_eq_some_iff.1 h3).1, hown.cells (g := g) rfl⟩
      · obtain ⟨j, hj, rfl⟩ := List.mem_map.1 hm
        have hjk := List.mem_range.1 hj
        have hjl := HKS.out j hjk
        have hpo := HP.out.on hB
        obtain ⟨ad, rfl, _, _⟩ := HP.out.data (fun e => by rw [List.map_eq_nil_iff] at e; rw [e] at hjl; simp at hjl)
        refine ⟨pc_lies hpo.data (by omega) n j, ?_, ?_⟩
        · show (pieceP p n j).us.length ≤ c - j * n
          rw [pieceP_len]
          omega
        · show c - j * n ≤ maxLen
          omega
end Go.Proofs.YtdcppcoldaaldaaGreatDoor


