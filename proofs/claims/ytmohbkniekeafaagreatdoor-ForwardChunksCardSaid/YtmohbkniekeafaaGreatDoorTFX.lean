/- Layer 16: what an argument that is a skip, or skips, reads as. No condition of its own. -/
/- Layer 16: the chunk of right skips is right, and says those skips (mathematics; no program). -/
/- Layer 16: given, back; the reference's Compare. They write nothing that was there. -/
/- Layer 16: the reference's Right, Same of the same. They write nothing that was there. -/
/- Layer 16: the reference's Make. It writes nothing that was there. -/
/- Layer 16: the reference's Of. It writes nothing that was there. -/
/- Layer 16: a right chunk is the chunk of the skips that it says (mathematics; no program). -/
import Derived.Test.YtmohbkniekeafaaGreatDoorTChunkX
import Derived.Test.YtmohbkniekeafaaGreatDoorTXA
import Derived.Test.YtmohbkniekeafaaGreatDoorTSKA
import Derived.Test.YtmohbkniekeafaaGreatDoorTFA
import Derived.Test.YtmohbkniekeafaaGreatDoorTFG


namespace Go.Proofs.YtmohbkniekeafaaGreatDoor
open Go.ChangeShapes Go.WideShapes Go.ChangeAt Go.RowKit

theorem fsflat_of {cs : List Value} {l : List Fs} (hl : cs.length = l.length * 3) (h : ∀ i s, l[i]? = some s → (cs.drop (i * 3)).take 3 = [hv s.st, .bool s.un, uv s.sq]) : cs = fsFlat l := by
  refine List.ext_getElem? fun j => ?_
  by_cases hj : j < cs.length
  · obtain ⟨s, hs⟩ : ∃ s, l[j / 3]? = some s := ⟨_, List.getElem?_eq_getElem (by omega)⟩
    obtain ⟨e1, e2, e3⟩ := fsFlat_at hs
    have h1 := h _ s hs
    have h0 : ∀ i, i < 3 → cs[j / 3 * 3 + i]? = [hv s.st, .bool s.un, uv s.sq][i]? := fun i hi => by
      rw [← h1, List.getElem?_take, if_pos hi, List.getElem?_drop]
    have hm : j % 3 = 0 ∨ j % 3 = 1 ∨ j % 3 = 2 := by omega
    rcases hm with hm | hm | hm
    · have e : j / 3 * 3 = j := by omega
      have := h0 0 (by omega)
      rw [Nat.add_zero, e] at this
      rw [e] at e1
      rw [this, e1]
      rfl
    · have e : j / 3 * 3 + 1 = j := by omega
      have := h0 1 (by omega)
      rw [e] at this
      rw [e] at e2
      rw [this, e2]
      rfl
    · have e : j / 3 * 3 + 2 = j := by omega
      have := h0 2 (by omega)
      rw [e] at this
      rw [e] at e3
      rw [this, e3]
      rfl
  · rw [List.getElem?_eq_none (by omega), List.getElem?_eq_none (by rw [fsFlat_len]; omega)]
section
variable {H : Type} {enc : TypeId × Value → H} {w : World} {fuel : Nat} {x : DataW H × List MemPlace}
set_option maxRecDepth 100000 in
/-- three cells that are a skip -/
theorem fs_of_trod {u : List Value} (hf : DataW.trod enc Tryz.prog w 0 (fun _ => true) true fuel 68 u = some x) (hl : u.length = 3) : ∃ s : Fs, u = [hv s.st, .bool s.un, uv s.sq] := by
  match u, hl with
  | [u0, u1, u2], _ =>
    obtain ⟨xs, n, hn, rfl, hl, hlen, hf⟩ := DataW.trod_struct Tryz.underlying68 hf
    match xs, hlen with
    | [y0, y1, y2], _ =>
      have e0 : Tryz.prog.cellsOf 37 = 1 := by kernel_rfl
      have e1 : Tryz.prog.cellsOf 4 = 1 := by kernel_rfl
      have e2 : Tryz.prog.cellsOf 22 = 1 := by kernel_rfl
      have f0 : DataW.trod enc Tryz.prog w 0 (fun _ => true) true n 37 [u0] = some y0 := by
        have h8 : DataW.trod enc Tryz.prog w 0 (fun _ => true) true n 37 (([u0, u1, u2].drop 0).take (Tryz.prog.cellsOf 37)) = some y0 := hf 0 _ rfl
        rw [e0] at h8
        exact h8
      have f1 : DataW.trod enc Tryz.prog w 0 (fun _ => true) true n 4 [u1] = some y1 := by
        have h8 : DataW.trod enc Tryz.prog w 0 (fun _ => true) true n 4 (([u0, u1, u2].drop 1).take (Tryz.prog.cellsOf 4)) = some y1 := hf 1 _ rfl
        rw [e1] at h8
        exact h8
      have f2 : DataW.trod enc Tryz.prog w 0 (fun _ => true) true n 22 [u2] = some y2 := by
        have h8 : DataW.trod enc Tryz.prog w 0 (fun _ => true) true n 22 (([u0, u1, u2].drop 2).take (Tryz.prog.cellsOf 22)) = some y2 := hf 2 _ rfl
        rw [e2] at h8
        exact h8
      obtain ⟨z0, g0, _, wz0⟩ := DataW.trod_int Tryz.underlying37 f0
      obtain rfl := (List.cons.inj g0).1
      obtain ⟨z1, g1, _⟩ := DataW.trod_bool Tryz.underlying4 f1
      obtain rfl := (List.cons.inj g1).1
      obtain ⟨z2, g2, _, wz2⟩ := DataW.trod_int Tryz.underlying22 f2
      obtain rfl := (List.cons.inj g2).1
      exact ⟨⟨u16of z0.toNat, z1, UInt32.ofNat z2.toNat⟩, by rw [← hv_of' (wf_u16 wz0), ← uv_of13 (wf_u32 wz2)]⟩
end
section
variable {H : Type} {enc : TypeId × Value → H} {w : World} {base : Nat} {v : Value} {d : DataW H} {p : List MemPlace}
set_option maxRecDepth 100000 in
/-- an argument that is skips -/
theorem open_skips (o : Value.okWide Tryz.prog w .any base 40 v) (h : DataW.Trod enc Tryz.prog w 0 (fun _ => true) true 40 v d p) (s : Small Tryz.prog 40 d) :
    ∃ (l : List Fs) (A : Option Addr) (c : Nat), v = .slice A l.length c ∧ FsL w w.heap.size A c l := by
  obtain ⟨A, n, c, rfl⟩ := okWide_slice Tryz.underlying40 o
  obtain ⟨fuel, hf⟩ := h
  have hf' : DataW.trod enc Tryz.prog w 0 (fun _ => true) true fuel 40 [.slice A n c] = some (d, p) := hf
  have c3 : Tryz.prog.cellsOf 68 = 3 := by kernel_rfl
  obtain ⟨cg, _, hcl, hcL, h1, h2, hb, h3⟩ := open_cells Tryz.underlying40 c3 (by omega) hf' s
  have h6 : ∀ i, i < n → ∃ s : Fs, (cg.drop (i * 3)).take 3 = [hv s.st, .bool s.un, uv s.sq] := fun i hi => by
    obtain ⟨y, hy, _⟩ := h3 i hi
    exact fs_of_trod hy (by rw [List.length_take, List.length_drop]; omega)
  obtain ⟨l, p1, p2⟩ := build_list n h6
  subst p1
  have e := fsflat_of hcl fun i s hs => p2 i s hs
  exact ⟨l, A, c, rfl, e ▸ hcL, h1, h2⟩
end
end Go.Proofs.YtmohbkniekeafaaGreatDoor



namespace Go.Proofs.YtmohbkniekeafaaGreatDoor
open Go.RowKit

theorem nb2 {x : UInt32} (h : x.toNat < 65536) : UInt32.ofNat (numOf (be 2 x)) = x := by
  rw [numOf_be (.inr (.inl rfl))]
  apply UInt32.toNat_inj.1
  rw [UInt32.toNat_ofNat']
  have := x.toNat_lt
  omega
theorem nb4 (x : UInt32) : UInt32.ofNat (numOf (be 4 x)) = x := by
  rw [numOf_be (.inr (.inr rfl))]
  apply UInt32.toNat_inj.1
  rw [UInt32.toNat_ofNat']
  have := x.toNat_lt
  omega
theorem only_no {s : Fs} (h : onlyB s = false) : s.un = false ∧ s.sq.toNat < 65536 := by
  unfold onlyB at h
  simp only [Bool.or_eq_false_iff, decide_eq_false_iff_not] at h
  exact ⟨h.1, by omega⟩
theorem st_backF (st : UInt16) : UInt16.ofNat (u32of st.toNat).toNat = st := by
  have := st.toNat_lt
  rw [u32of_toNat (by omega)]
  exact UInt16.toNat_inj.1 (by rw [UInt16.toNat_ofNat']; omega)
theorem skN_fsB (inter : Bool) (s : Fs) (h : (inter || !onlyB s) = true) : skN inter (fsB inter s) = s := by
  have hb := st_backF s.st
  have hst : (u32of s.st.toNat).toNat < 65536 := by have := s.st.toNat_lt; rw [u32of_toNat (by omega)]; omega
  cases inter with
  | true =>
    have a0 : nrd (fsB true s) 0 2 = u32of s.st.toNat := nb2 hst
    have a1 : nrd (fsB true s) 2 2 = u32of (unN s.un).toNat := nb2 (by cases s.un <;> decide)
    have a2 : nrd (fsB true s) 4 4 = s.sq := nb4 s.sq
    unfold skN
    rw [if_pos rfl, a0, a1, a2, hb]
    obtain ⟨st, un, sq⟩ := s
    cases un <;> rfl
  | false =>
    have ho : onlyB s = false := by simpa using h
    obtain ⟨h1, h2⟩ := only_no ho
    have a0 : nrd (fsB false s) 0 2 = u32of s.st.toNat := nb2 hst
    have a1 : nrd (fsB false s) 2 2 = s.sq := nb2 h2
    unfold skN
    rw [if_neg (by simp), a0, a1, hb]
    obtain ⟨st, un, sq⟩ := s
    simp only at h1
    rw [h1]
theorem flat_cut (inter : Bool) : ∀ (l : List Fs) (j : Nat) (s : Fs), l[j]? = some s → (((l.map (fsB inter)).flatten).drop (unitN inter * j)).take (unitN inter) = fsB inter s
  | [], j, s, h => by simp at h
  | a :: l, 0, s, h => by
    simp only [List.getElem?_cons_zero, Option.some.injEq] at h
    subst h
    rw [Nat.mul_zero, List.drop_zero, List.map_cons, List.flatten_cons, List.take_append_of_le_length (by rw [fsB_len]; exact Nat.le_refl _)]
    exact List.take_of_length_le (by rw [fsB_len]; exact Nat.le_refl _)
  | a :: l, j + 1, s, h => by
    rw [List.getElem?_cons_succ] at h
    rw [← flat_cut inter l j s h, List.map_cons, List.flatten_cons, Nat.mul_add, Nat.mul_one, List.drop_append, List.drop_eq_nil_of_le (by rw [fsB_len]; omega), List.nil_append, fsB_len, Nat.add_sub_cancel]
theorem fB_cut {inter : Bool} {tsn : UInt32} {l : List Fs} {j : Nat} {s : Fs} (h : l[j]? = some s) : ((fB inter tsn l).drop (4 + unitN inter * j)).take (unitN inter) = fsB inter s := by
  have hp : (puts 4 [tsn]).length = 4 := by rw [puts_len]; rfl
  unfold fB
  rw [List.drop_append, List.drop_eq_nil_of_le (by rw [hp]; omega), List.nil_append, hp, Nat.add_sub_cancel_left]
  exact flat_cut inter l j s h
theorem have_parts {inter : Bool} {l : List Fs} (h : haveB inter l = true) : l.length ≤ mostN inter 65535 ∧ ∀ s ∈ l, (inter || !onlyB s) = true := by
  unfold haveB at h
  simp only [Bool.and_eq_true, decide_eq_true_eq] at h
  refine ⟨h.1, fun s hs => ?_⟩
  cases inter with
  | true => rfl
  | false =>
    have h2 : l.any onlyB = false := by simpa using h.2
    rw [List.any_eq_false] at h2
    have := h2 s hs
    simpa using this
theorem have_len {inter : Bool} {l : List Fs} (h : haveB inter l = true) : 8 + unitN inter * l.length ≤ 65535 := by
  have h1 := (have_parts h).1
  unfold mostN at h1
  rw [if_neg (by omega)] at h1
  have h2 := Nat.mul_le_mul_left (unitN inter) h1
  have h3 := Nat.mul_div_le (65535 - 8) (unitN inter)
  omega
theorem fwL_fB {inter : Bool} {l : List Fs} (tsn : UInt32) (h : haveB inter l = true) : fwL inter (fB inter tsn l) = l := by
  have hu : 0 < unitN inter := by cases inter <;> decide
  have hlen : (fwL inter (fB inter tsn l)).length = l.length := by
    unfold fwL
    rw [List.length_map, List.length_range, fB_len, Nat.add_sub_cancel_left, Nat.mul_div_cancel_left _ hu]
  apply List.ext_getElem?
  intro j
  by_cases hj : j < l.length
  · rw [fwL_at (by rw [hlen]; exact hj), fB_cut (List.getElem?_eq_getElem hj), skN_fsB _ _ ((have_parts h).2 _ (List.getElem_mem _)), List.getElem?_eq_getElem hj]
  · rw [List.getElem?_eq_none (by omega), List.getElem?_eq_none (by omega)]
theorem num2_of {d : List UInt8} {i : Nat} {x : UInt32} (hi : i + 2 ≤ d.length) (h : (d.drop i).take 2 = be 2 x) (hx : x.toNat < 65536) : num2 d i = x.toNat := by
  rw [drop_two hi] at h
  have e := numOf_twoE (d.getD i 0) (d.getD (i + 1) 0)
  rw [h, numOf_be (.inr (.inl rfl))] at e
  unfold num2
  rw [← e]
  omega
theorem fB_num {tsn : UInt32} {l : List Fs} {k : Nat} (hk : k < l.length) : num2 (fB true tsn l) (4 + 8 * k + 2) ≤ 1 := by
  obtain ⟨s, hs⟩ : ∃ s, l[k]? = some s := ⟨_, List.getElem?_eq_getElem hk⟩
  have h1 := fB_cut (inter := true) (tsn := tsn) hs
  have hu : unitN true = 8 := rfl
  rw [hu] at h1
  have hl := fB_len true tsn l
  rw [hu] at hl
  have h2 : ((fB true tsn l).drop (4 + 8 * k + 2)).take 2 = be 2 (u32of (unN s.un).toNat) := by
    have e : ((((fB true tsn l).drop (4 + 8 * k)).take 8).drop 2).take 2 = ((fB true tsn l).drop (4 + 8 * k + 2)).take 2 := by
      rw [List.drop_take, List.take_take, List.drop_drop]
      rfl
    rw [← e, h1]
    rfl
  rw [num2_of (by omega) h2 (by cases s.un <;> decide)]
  cases s.un <;> decide
theorem kdF_hi (b : Bool) : 65524 ≤ (kdOf (tyF b)).hi ∧ (b = false → 65528 ≤ (kdOf (tyF b)).hi) := by cases b <;> decide +kernel
theorem kdF_lo (b : Bool) : (kdOf (tyF b)).lo = 4 ∧ (kdOf (tyF b)).un = (unitN b : Nat) := by cases b <;> decide +kernel
theorem fwC_right {inter : Bool} {tsn : UInt32} {l : List Fs} (h : haveB inter l = true) : chkC (fwC inter tsn l) = 0 := by
  have hl := fB_len inter tsn l
  have hn := have_len h
  have hk := tyF_kd inter
  have hfl : flB (fwC inter tsn l) = false := by
    unfold flB
    rw [show (fwC inter tsn l).t = tyF inter from rfl, show (fwC inter tsn l).fl = 0 from rfl, hk.1, hk.2.2]
    decide +kernel
  have hda : daB (fwC inter tsn l) = false := by
    unfold daB kfitsB
    rw [show (fwC inter tsn l).t = tyF inter from rfl, show (fwC inter tsn l).d = fB inter tsn l from rfl, hk.2.2, (kdF_lo inter).1, (kdF_lo inter).2, hl]
    have hhi := kdF_hi inter
    simp only [Bool.true_and, Bool.not_eq_false', Bool.and_eq_true, decide_eq_true_eq, beq_iff_eq]
    refine ⟨⟨by omega, by
      cases inter with
      | true => have hu : unitN true = 8 := rfl; rw [hu] at hn ⊢; have := hhi.1; omega
      | false => have hu : unitN false = 4 := rfl; rw [hu] at hn ⊢; have := hhi.2 rfl; omega⟩, ?_⟩
    have : (((4 + unitN inter * l.length : Nat) : Int) - 4) = ((unitN inter : Nat) : Int) * (l.length : Int) := by rw [Int.natCast_add, Int.natCast_mul]; omega
    rw [this]
    exact Int.mul_emod_right _ _
  have hki : kidB (fwC inter tsn l) = false := by
    unfold kidB
    rw [show (fwC inter tsn l).t = tyF inter from rfl, hk.2.1, show (fwC inter tsn l).ks = [] from rfl]
    decide
  have hcn : cntC (fwC inter tsn l) = false := by
    unfold cntC
    rw [show (fwC inter tsn l).t = tyF inter from rfl]
    cases inter <;> rfl
  have hcv : cvalO (fwC inter tsn l) = none := by
    unfold cvalO
    rw [show (fwC inter tsn l).t = tyF inter from rfl, show (fwC inter tsn l).d = fB inter tsn l from rfl]
    cases inter with
    | false => rfl
    | true =>
      have hu : unitN true = 8 := rfl
      rw [hu] at hl
      have hg : grp (fB true tsn l) = none := grp_none fun j hj => by
        have := fB_num (tsn := tsn) (show j < l.length by omega)
        omega
      have hw : wgOf (fB true tsn l) = (fB true tsn l).length := by
        unfold wgOf
        rw [hg]
        show 4 + 8 * (((fB true tsn l).length - 4) / 8) = _
        omega
      rw [if_neg (by decide), if_pos (by rfl), hw, if_neg (by omega)]
  have hcs : ¬ 65535 < csz (fwC inter tsn l) := by
    have : csz (fwC inter tsn l) = 4 + (fB inter tsn l).length := rfl
    rw [this, hl]
    omega
  unfold chkC
  rw [hfl, hda, hki, hcn, hcv, show (fwC inter tsn l).ks = [] from rfl]
  have hcl : chkL (kc (fwC inter tsn l).t) [] = 0 := rfl
  simp [hcl, hcs]
theorem fwC_it (inter : Bool) (tsn : UInt32) (l : List Fs) : itW (fwC inter tsn l) = inter := by cases inter <;> rfl
theorem fwC_is {inter : Bool} {tsn : UInt32} {l : List Fs} (h : haveB inter l = true) : isW (fwC inter tsn l) = true := by
  unfold isW
  rw [fwC_right h]
  cases inter <;> rfl
theorem fwC_t {inter : Bool} {tsn : UInt32} {l : List Fs} (h : haveB inter l = true) : ofWt (fwC inter tsn l) = tsn := by
  unfold ofWt
  rw [if_pos (fwC_is h)]
  exact nb4 tsn
theorem fwC_l {inter : Bool} {tsn : UInt32} {l : List Fs} (h : haveB inter l = true) : ofWl (fwC inter tsn l) = l := by
  unfold ofWl
  rw [if_pos (fwC_is h), fwC_it]
  exact fwL_fB tsn h
theorem fwC_fine {inter : Bool} {tsn : UInt32} {l : List Fs} (h : haveB inter l = true) : CkFine (fwC inter tsn l) := by
  have hl := fB_len inter tsn l
  have hn := have_len h
  refine ⟨?_, by simp [fwC], by simp [fwC]⟩
  show (fB inter tsn l).length ≤ _
  omega
end Go.Proofs.YtmohbkniekeafaaGreatDoor



namespace Go.Proofs.YtmohbkniekeafaaGreatDoor
open Go.RowKit

set_option linter.unusedSimpArgs false
theorem rfsinfo : (Tryz.prog.info? 68).map (fun i => (i.zero, i.size, i.bytes)) = some (some (.agg #[.int .u16 0, .bool false, .int .u32 0]), 3, 8) := by kernel_rfl
set_option maxRecDepth 100000 in
set_option maxHeartbeats 4000000 in
theorem given16_any (l : List Fs) (A : Option Addr) (c : Nat) (w : World) (h : FsL w w.heap.size A c l) (hl : l.length ≤ 1000000) :
    Calls Tryz.prog 23 #[.slice A l.length c] w fun e w' => Below w.heap.size w w' ∧ ∃ A' c', e = .returned (.slice A' l.length c') ∧ w'.ownsRow w.heap.size 70 3 (.slice A' l.length c') l.length (fsFlat l) := by
  have HG := Lib.hid h
  clear h
  go_enter Tryz.func23, Tryz.ntmps23
  go_upto_region 3 with fail
  go_loopw [3, 4] (fun t i wr => ∃ (k : Nat) (Av : Option Addr) (ac : Nat), k ≤ l.length ∧ i = .int .i64 (k : Int) ∧ t = .slice Av k ac ∧ Hid (wr.ownsRow w.heap.size 70 3 (.slice Av k ac) k (fsFlat (l.take k))) ∧ Below w.heap.size w wr) (fun _ i _ => l.length - (intOf i).toNat)
  case atStart => exact ⟨0, none, 0, Nat.zero_le _, rfl, rfl, World.ownsRow_nil _ _ _ _, Below.refl _ _⟩
  case round =>
    obtain ⟨k, Av, ac, hk, rfl, rfl, hR, hbel⟩ := hrel
    have hsz := hbel.size
    by_cases hlt : k < l.length
    · obtain ⟨s, hs⟩ : ∃ s, l[k]? = some s := ⟨_, List.getElem?_eq_getElem hlt⟩
      obtain ⟨ad, rfl, hadb, c0, c1, c2⟩ := (HG.out.on hbel).at_ hs
      have hi1 : (k : Int) < (l.length : Int) := by omega
      have HT : Hid (fsFlat (l.take (k + 1)) = fsFlat (l.take k) ++ [hv s.st, .bool s.un, uv s.sq]) := Lib.hid (by rw [take_some hs, fsFlat_snoc])
      have r1 : World.ownsRow (wr.alloc (.cells #[hv s.st, .bool s.un, uv s.sq] 70)) w.heap.size 70 3 (.slice Av k ac) k (fsFlat (l.take k)) := own_belowR hR.out ((Below.refl _ wr).alloc (Nat.le_refl _) _)
      have L1 : Lies (wr.alloc (.cells #[hv s.st, .bool s.un, uv s.sq] 70)) (wr.heap.size + 1) (some ⟨wr.heap.size, 0, none⟩) [hv s.st, .bool s.un, uv s.sq] := Lies.newN wr [hv s.st, .bool s.un, uv s.sq] 70
      have B1 : Below w.heap.size w (wr.alloc (.cells #[hv s.st, .bool s.un, uv s.sq] 70)) := hbel.alloc hsz _
      have hone : ∀ u ∈ [hv s.st, .bool s.un, uv s.sq], u.oneCell' = true := by intro u hu; simp at hu; rcases hu with rfl | rfl | rfl <;> rfl
      have hs1 : w.heap.size ≤ (wr.alloc (.cells #[hv s.st, .bool s.un, uv s.sq] 70)).heap.size := by simp; omega
      clear hs hR hbel
      go_wp2_with (at_builtin; refine wpList_append_wide13 _ rfl (.tmp 11) (.tmp 16) 47 rfl w.heap.size 70 _ 3 8 Tryz.underlying47 fsinfo rfl (by omega) (.slice Av k ac) k _ rfl r1 _ (some ⟨wr.heap.size, 0, none⟩) 1 1 [hv s.st, .bool s.un, uv s.sq] rfl rfl L1 hone (by omega) (by unfold maxLen; omega) hs1 ?_; intro v' w7 own7 gr7; obtain ⟨A7, c7, rfl⟩ := own_slice2 own7)
      have B7 := B1.grown gr7 hs1 (fun r e => (r1.lt r e).1)
      have R7 : Hid (w7.ownsRow w.heap.size 70 3 (.slice A7 (k + 1) c7) (k + 1) (fsFlat (l.take (k + 1)))) := Lib.hid (by rw [HT.out]; exact own7)
      clear own7 gr7 r1 L1 B1
      go_wp2_with fail
      go_roundw
      case rel => exact ⟨k + 1, A7, c7, by omega, by go_num, rfl, R7, B7⟩
      case measure => simp [intOf]; omega
    · obtain rfl : k = l.length := by omega
      have hi1 : ¬ (l.length : Int) < (l.length : Int) := by omega
      rw [List.take_length] at hR
      go_wp2_with fail
      go_ret
      exact ⟨hbel, Av, ac, rfl, hR.out⟩
set_option maxRecDepth 100000 in
set_option maxHeartbeats 4000000 in
theorem back16_any (l : List Fs) (A : Option Addr) (c : Nat) (w : World) (h : FsL w w.heap.size A c l) (hl : l.length ≤ 1000000) :
    Calls Tryz.prog 30 #[.slice A l.length c] w fun e w' => Below w.heap.size w w' ∧ ∃ A' c', e = .returned (.slice A' l.length c') ∧ w'.ownsRow w.heap.size 68 3 (.slice A' l.length c') l.length (fsFlat l) := by
  have HG := Lib.hid h
  clear h
  go_enter Tryz.func30, Tryz.ntmps30
  go_upto_region 3 with fail
  go_loopw [3, 4] (fun t i wr => ∃ (k : Nat) (Av : Option Addr) (ac : Nat), k ≤ l.length ∧ i = .int .i64 (k : Int) ∧ t = .slice Av k ac ∧ Hid (wr.ownsRow w.heap.size 68 3 (.slice Av k ac) k (fsFlat (l.take k))) ∧ Below w.heap.size w wr) (fun _ i _ => l.length - (intOf i).toNat)
  case atStart => exact ⟨0, none, 0, Nat.zero_le _, rfl, rfl, World.ownsRow_nil _ _ _ _, Below.refl _ _⟩
  case round =>
    obtain ⟨k, Av, ac, hk, rfl, rfl, hR, hbel⟩ := hrel
    have hsz := hbel.size
    by_cases hlt : k < l.length
    · obtain ⟨s, hs⟩ : ∃ s, l[k]? = some s := ⟨_, List.getElem?_eq_getElem hlt⟩
      obtain ⟨ad, rfl, hadb, c0, c1, c2⟩ := (HG.out.on hbel).at_ hs
      have hi1 : (k : Int) < (l.length : Int) := by omega
      have HT : Hid (fsFlat (l.take (k + 1)) = fsFlat (l.take k) ++ [hv s.st, .bool s.un, uv s.sq]) := Lib.hid (by rw [take_some hs, fsFlat_snoc])
      have r1 : World.ownsRow (wr.alloc (.cells #[hv s.st, .bool s.un, uv s.sq] 68)) w.heap.size 68 3 (.slice Av k ac) k (fsFlat (l.take k)) := own_belowR hR.out ((Below.refl _ wr).alloc (Nat.le_refl _) _)
      have L1 : Lies (wr.alloc (.cells #[hv s.st, .bool s.un, uv s.sq] 68)) (wr.heap.size + 1) (some ⟨wr.heap.size, 0, none⟩) [hv s.st, .bool s.un, uv s.sq] := Lies.newN wr [hv s.st, .bool s.un, uv s.sq] 68
      have B1 : Below w.heap.size w (wr.alloc (.cells #[hv s.st, .bool s.un, uv s.sq] 68)) := hbel.alloc hsz _
      have hone : ∀ u ∈ [hv s.st, .bool s.un, uv s.sq], u.oneCell' = true := by intro u hu; simp at hu; rcases hu with rfl | rfl | rfl <;> rfl
      have hs1 : w.heap.size ≤ (wr.alloc (.cells #[hv s.st, .bool s.un, uv s.sq] 68)).heap.size := by simp; omega
      clear hs hR hbel
      go_wp2_with (at_builtin; refine wpList_append_wide13 _ rfl (.tmp 11) (.tmp 16) 40 rfl w.heap.size 68 _ 3 8 Tryz.underlying40 rfsinfo rfl (by omega) (.slice Av k ac) k _ rfl r1 _ (some ⟨wr.heap.size, 0, none⟩) 1 1 [hv s.st, .bool s.un, uv s.sq] rfl rfl L1 hone (by omega) (by unfold maxLen; omega) hs1 ?_; intro v' w7 own7 gr7; obtain ⟨A7, c7, rfl⟩ := own_slice2 own7)
      have B7 := B1.grown gr7 hs1 (fun r e => (r1.lt r e).1)
      have R7 : Hid (w7.ownsRow w.heap.size 68 3 (.slice A7 (k + 1) c7) (k + 1) (fsFlat (l.take (k + 1)))) := Lib.hid (by rw [HT.out]; exact own7)
      clear own7 gr7 r1 L1 B1
      go_wp2_with fail
      go_roundw
      case rel => exact ⟨k + 1, A7, c7, by omega, by go_num, rfl, R7, B7⟩
      case measure => simp [intOf]; omega
    · obtain rfl : k = l.length := by omega
      have hi1 : ¬ (l.length : Int) < (l.length : Int) := by omega
      rw [List.take_length] at hR
      go_wp2_with fail
      go_ret
      exact ⟨hbel, Av, ac, rfl, hR.out⟩
end Go.Proofs.YtmohbkniekeafaaGreatDoor



namespace Go.Proofs.YtmohbkniekeafaaGreatDoor
open Go.RowKit

set_option linter.unusedSimpArgs false
theorem haveB_true (l : List Fs) : haveB true l = decide (l.length ≤ 8190) := by
  have e : mostN true 65535 = 8190 := by decide
  unfold haveB
  rw [e, Bool.true_or, Bool.and_true]
theorem haveB_no {l : List Fs} {s : Fs} (h : s ∈ l) (hs : onlyB s = true) : haveB false l = false := by
  have e : l.any onlyB = true := List.any_eq_true.2 ⟨s, h, hs⟩
  unfold haveB
  rw [e]
  simp
theorem haveB_all {l : List Fs} (h : ∀ s ∈ l, onlyB s = false) : haveB false l = decide (l.length ≤ 16381) := by
  have e : l.any onlyB = false := by
    rw [List.any_eq_false]
    intro s hs
    rw [h s hs]
    simp
  have e2 : mostN false 65535 = 16381 := by decide
  unfold haveB
  rw [e, e2]
  simp
set_option maxRecDepth 100000 in
set_option maxHeartbeats 4000000 in
theorem frright_any (inter : Bool) (l : List Fs) (A : Option Addr) (c : Nat) (w : World) (h : FsL w w.heap.size A c l) (hl : l.length ≤ 1000000) :
    Calls Tryz.prog 24 #[.bool inter, .slice A l.length c] w fun e w' => e = .returned (.bool (haveB inter l)) ∧ w' = w := by
  have HG := Lib.hid h
  clear h
  cases inter with
  | true =>
    have HH := Lib.hid (haveB_true l)
    generalize haveB true l = r at *
    go_enter Tryz.func24, Tryz.ntmps24
    go_upto_region 2 with fail
    go_loopw [5] (fun i wr => ∃ k : Nat, k ≤ l.length ∧ i = .int .i64 (k : Int) ∧ wr = w) (fun i _ => l.length - (intOf i).toNat)
    case atStart => exact ⟨0, Nat.zero_le _, rfl, rfl⟩
    case round =>
      obtain ⟨k, hk, rfl, rfl⟩ := hrel
      by_cases hlt : k < l.length
      · have hi1 : (k : Int) < (l.length : Int) := by omega
        go_wp2_with fail
        go_roundw
        case rel => exact ⟨k + 1, by omega, by go_num, trivial⟩
        case measure => simp [intOf]; omega
      · obtain rfl : k = l.length := by omega
        have hi1 : ¬ (l.length : Int) < (l.length : Int) := by omega
        by_cases hn : l.length ≤ 8190
        · have hn2 : (4 : Int) + 8 * (l.length : Int) ≤ 65531 := by omega
          obtain rfl : r = true := by rw [HH.out, decide_eq_true hn]
          clear HH
          go_wp2_with fail
          go_ret
          exact ⟨rfl, rfl⟩
        · have hn2 : ¬ (4 : Int) + 8 * (l.length : Int) ≤ 65531 := by omega
          obtain rfl : r = false := by rw [HH.out, decide_eq_false hn]
          clear HH
          go_wp2_with fail
          go_ret
          exact ⟨rfl, rfl⟩
  | false =>
    have HNO := Lib.hid (fun (s : Fs) (h1 : s ∈ l) (h2 : onlyB s = true) => haveB_no h1 h2)
    have HAL := Lib.hid (fun (h : ∀ s ∈ l, onlyB s = false) => haveB_all h)
    generalize haveB false l = r at *
    go_enter Tryz.func24, Tryz.ntmps24
    go_upto_region 2 with fail
    go_loopw [5] (fun i wr => ∃ k : Nat, k ≤ l.length ∧ i = .int .i64 (k : Int) ∧ Hid (∀ s ∈ l.take k, onlyB s = false) ∧ wr = w) (fun i _ => l.length - (intOf i).toNat)
    case atStart => exact ⟨0, Nat.zero_le _, rfl, fun s hs => by simp at hs, rfl⟩
    case round =>
      obtain ⟨k, hk, rfl, hno, rfl⟩ := hrel
      by_cases hlt : k < l.length
      · obtain ⟨s, hs⟩ : ∃ s, l[k]? = some s := ⟨_, List.getElem?_eq_getElem hlt⟩
        obtain ⟨ad, rfl, hadb, c0, c1, c2⟩ := HG.out.at_ hs
        have hi1 : (k : Int) < (l.length : Int) := by omega
        have HM := Lib.hid (List.mem_of_getElem? hs)
        have HTK := Lib.hid (take_some hs)
        obtain ⟨st, un, sq⟩ := s
        simp only at c0 c1 c2
        clear hs
        cases un with
        | true =>
          obtain rfl : r = false := HNO.out _ HM.out rfl
          clear HNO HAL HM HTK
          go_wp2_with fail
          go_ret
          exact ⟨rfl, rfl⟩
        | false =>
          by_cases h6 : (65535 : Int) < (sq.toNat : Int)
          · obtain rfl : r = false := HNO.out _ HM.out (by unfold onlyB; simp only [Bool.false_or]; exact decide_eq_true (by omega))
            clear HNO HAL HM HTK
            go_wp2_with fail
            go_ret
            exact ⟨rfl, rfl⟩
          · have hno2 : Hid (∀ s ∈ l.take (k + 1), onlyB s = false) := Lib.hid (by
              rw [HTK.out]
              intro s hs
              rcases List.mem_append.1 hs with h | h
              · exact hno.out s h
              · rw [List.mem_singleton.1 h]
                unfold onlyB
                simp only [Bool.false_or]
                exact decide_eq_false (by omega))
            clear hno HTK HM
            go_wp2_with fail
            go_roundw
            case rel => exact ⟨k + 1, by omega, by go_num, hno2, trivial⟩
            case measure => simp [intOf]; omega
      · obtain rfl : k = l.length := by omega
        have hi1 : ¬ (l.length : Int) < (l.length : Int) := by omega
        rw [List.take_length] at hno
        have hr := HAL.out hno.out
        have HR := Lib.hid hr
        clear hr HAL HNO hno
        by_cases hn : l.length ≤ 16381
        · have hn2 : (4 : Int) + 4 * (l.length : Int) ≤ 65531 := by omega
          obtain rfl : r = true := by rw [HR.out, decide_eq_true hn]
          clear HR
          go_wp2_with fail
          go_ret
          exact ⟨rfl, rfl⟩
        · have hn2 : ¬ (4 : Int) + 4 * (l.length : Int) ≤ 65531 := by omega
          obtain rfl : r = false := by rw [HR.out, decide_eq_false hn]
          clear HR
          go_wp2_with fail
          go_ret
          exact ⟨rfl, rfl⟩
theorem eq_fsR (T : TypeId) (hT : T = 68) (a : UInt16) (b : Bool) (c : UInt32) (w : World) : (Op.equalIn 10000 T (.agg #[hv a, .bool b, uv c]) (.agg #[hv a, .bool b, uv c])).run Tryz.prog w = .ok true w := by
  subst hT
  have h16 : ∀ x y : Int, (Op.equalIn 9999 37 (.int .u16 x) (.int .u16 y)).run Tryz.prog w = .ok (x == y) w := fun x y => run_equalIn_int w 9998 37 .u16 .u16 x y Tryz.underlying37
  have h32 : ∀ x y : Int, (Op.equalIn 9999 22 (.int .u32 x) (.int .u32 y)).run Tryz.prog w = .ok (x == y) w := fun x y => run_equalIn_int w 9998 22 .u32 .u32 x y Tryz.underlying22
  have h1 : ∀ x y : Bool, (Op.equalIn 9999 4 (.bool x) (.bool y)).run Tryz.prog w = .ok (x == y) w := fun x y => run_equalIn_bool w 9998 4 x y Tryz.underlying4
  have hf : (Tryz.prog.fieldsOf 68).toList.map (fun f => (f.name == "_", f.type, f.offset)) = [(false, 37, 0), (false, 4, 1), (false, 22, 2)] := by kernel_rfl
  have size_b : (Tryz.prog.info? 4).map (·.size) = some 1 := by kernel_rfl
  obtain ⟨i, hi, hs⟩ := Option.map_eq_some_iff.1 size_u32
  obtain ⟨i2, hi2, hs2⟩ := Option.map_eq_some_iff.1 size_u16
  obtain ⟨i3, hi3, hs3⟩ := Option.map_eq_some_iff.1 size_b
  rw [show (10000 : Nat) = 9999 + 1 from rfl, run_equalIn_struct w 9999 68 _ _ (by kernel_rfl) (by kernel_rfl)]
  generalize (Tryz.prog.fieldsOf 68).toList = fs at *
  rcases fs with _ | ⟨f0, _ | ⟨f1, _ | ⟨f2, _ | ⟨f3, fs⟩⟩⟩⟩ <;> simp at hf
  obtain ⟨⟨n0, t0, o0⟩, ⟨n1, t1, o1⟩, ⟨n2, t2, o2⟩⟩ := hf
  simp [Op.eqFields, n0, n1, n2, t0, t1, t2, o0, o1, o2, go_sem, part, sizeOf, typeInfo, hi, hs, hi2, hs2, hi3, hs3, h16, h32, h1]
set_option maxRecDepth 100000 in
set_option maxHeartbeats 8000000 in
theorem rsame16_self (l : List Fs) (A : Option Addr) (c : Nat) (A' : Option Addr) (c' : Nat) (w : World) (h : FsL w w.heap.size A c l) (h' : FsL w w.heap.size A' c' l) :
    Calls Tryz.prog 29 #[.slice A l.length c, .slice A' l.length c'] w fun e w' => e = .returned (.bool true) ∧ Below w.heap.size w w' := by
  have hgl : l.length ≤ 9223372036854775807 := by have := h.c1; have := h.c2; unfold maxLen at this; omega
  have H1 := Lib.hid h
  have H2 := Lib.hid h'
  have hne : ((l.length : Int) != (l.length : Int)) = false := by simp
  clear h h'
  go_enter Tryz.func29, Tryz.ntmps29
  go_upto_region 4 with fail
  go_loopw [5] (fun i wr => ∃ j : Nat, j ≤ l.length ∧ i = .int .i64 (j : Int) ∧ Below w.heap.size w wr) (fun i _ => l.length - (intOf i).toNat)
  case atStart => exact ⟨0, Nat.zero_le _, rfl, Below.refl _ _⟩
  case round =>
    obtain ⟨j, hj, rfl, hbel⟩ := hrel
    by_cases hlt : j < l.length
    · obtain ⟨s, hs⟩ : ∃ s, l[j]? = some s := ⟨_, List.getElem?_eq_getElem hlt⟩
      obtain ⟨ad, rfl, hadb, c0, c1, c2⟩ := (H1.out.on hbel).at_ hs
      obtain ⟨ad2, rfl, hadb2, d0, d1, d2⟩ := (H2.out.on hbel).at_ hs
      have hi1 : (j : Int) < (l.length : Int) := by omega
      have HE := Lib.hid (fun W => eq_fsR 68 rfl s.st s.un s.sq W)
      have HB1 := Lib.hid hbel
      clear hs hbel
      go_upto_region 6 with fail
      refine wp_region_held_drew (S := (fun W => W.cell? (ad.add (j * 3)) = some (hv s.st) ∧ W.cell? ⟨(ad.add (j * 3)).block, (ad.add (j * 3)).off + 1, none⟩ = some (.bool s.un) ∧ W.cell? ⟨(ad.add (j * 3)).block, (ad.add (j * 3)).off + 2, none⟩ = some (uv s.sq) ∧ W.cell? (ad2.add (j * 3)) = some (hv s.st) ∧ W.cell? ⟨(ad2.add (j * 3)).block, (ad2.add (j * 3)).off + 1, none⟩ = some (.bool s.un) ∧ W.cell? ⟨(ad2.add (j * 3)).block, (ad2.add (j * 3)).off + 2, none⟩ = some (uv s.sq))) (by kernel_rfl) ⟨c0, c1, c2, d0, d1, d2⟩ (fun hHeld => ?_)
      refine take_at (i := 0) (v := ?_) (some 17) rfl (by kernel_rfl) (by kernel_rfl) (by kernel_rfl) (fun _ _ _ h => h) (by kernel_rfl) (Or.inl ⟨by kernel_rfl, ?_⟩) (by assumption) ?_
      rotate_left
      · (intro w hSw; (try dsimp only at hSw); go_simp <;> with_reducible rfl)
      simp only [Act.put, List.setIfInBounds_toArray, List.set_cons_zero, List.set_cons_succ]
      refine take_at (i := 1) (v := ?_) (some 18) rfl (by kernel_rfl) (by kernel_rfl) (by kernel_rfl) (fun _ _ _ h => h) (by kernel_rfl) (Or.inl ⟨by kernel_rfl, ?_⟩) (by assumption) ?_
      rotate_left
      · (intro w hSw; (try dsimp only at hSw); go_simp <;> with_reducible rfl)
      simp only [Act.put, List.setIfInBounds_toArray, List.set_cons_zero, List.set_cons_succ]
      refine take_at (i := 2) (v := ?_) (some 19) rfl (by kernel_rfl) (by kernel_rfl) (by kernel_rfl) (fun _ _ _ h => h) (by kernel_rfl) (Or.inl ⟨by kernel_rfl, ?_⟩) (by assumption) ?_
      rotate_left
      · (intro w hSw; (try dsimp only at hSw); go_simp <;> with_reducible rfl)
      simp only [Act.put, List.setIfInBounds_toArray, List.set_cons_zero, List.set_cons_succ]
      refine take_at (i := 3) (v := ?_) (some 20) rfl (by kernel_rfl) (by kernel_rfl) (by kernel_rfl) (fun _ _ _ h => h) (by kernel_rfl) (Or.inl ⟨by kernel_rfl, ?_⟩) (by assumption) ?_
      rotate_left
      · (intro w hSw; (try dsimp only at hSw); go_simp <;> with_reducible rfl)
      simp only [Act.put, List.setIfInBounds_toArray, List.set_cons_zero, List.set_cons_succ]
      refine take_at (i := 4) (v := ?_) (some 21) rfl (by kernel_rfl) (by kernel_rfl) (by kernel_rfl) (fun _ _ _ h => h) (by kernel_rfl) (Or.inl ⟨by kernel_rfl, ?_⟩) (by assumption) ?_
      rotate_left
      · (intro w hSw; (try dsimp only at hSw); go_simp <;> with_reducible rfl)
      simp only [Act.put, List.setIfInBounds_toArray, List.set_cons_zero, List.set_cons_succ]
      refine take_at (i := 5) (v := ?_) (some 22) rfl (by kernel_rfl) (by kernel_rfl) (by kernel_rfl) (fun _ _ _ h => h) (by kernel_rfl) (Or.inl ⟨by kernel_rfl, ?_⟩) (by assumption) ?_
      rotate_left
      · (intro w hSw; (try dsimp only at hSw); go_simp <;> with_reducible rfl)
      simp only [Act.put, List.setIfInBounds_toArray, List.set_cons_zero, List.set_cons_succ]
      refine take_at (i := 6) (v := ?_) (some 23) rfl (by kernel_rfl) (by kernel_rfl) (by kernel_rfl) (fun _ _ _ h => h) (by kernel_rfl) (Or.inl ⟨by kernel_rfl, ?_⟩) (by assumption) ?_
      rotate_left
      · (intro w hSw; (try dsimp only at hSw); go_simp <;> with_reducible rfl)
      simp only [Act.put, List.setIfInBounds_toArray, List.set_cons_zero, List.set_cons_succ]
      refine take_at (i := 7) (v := ?_) (some 24) rfl (by kernel_rfl) (by kernel_rfl) (by kernel_rfl) (fun _ _ _ h => h) (by kernel_rfl) (Or.inl ⟨by kernel_rfl, ?_⟩) (by assumption) ?_
      rotate_left
      · (intro w hSw; (try dsimp only at hSw); go_simp <;> with_reducible rfl)
      simp only [Act.put, List.setIfInBounds_toArray, List.set_cons_zero, List.set_cons_succ]
      refine wpAnyH_ready (rs := [8]) (by kernel_rfl) (by simp) ?_
      refine AllReadyH.cons rfl (fun K hK => ?_) AllReadyH.nil
      have HE9 := HE.out
      go_simp
      clear HE9
      clear hHeld
      refine hK.out _ _ ⟨c0, c1, c2, d0, d1, d2⟩ (fun hHeld => ?_)
      clear hK K
      try simp only [Act.put, List.setIfInBounds_toArray, List.set_cons_zero, List.set_cons_succ]
      refine wpAnyH_done (by kernel_rfl) ?_ _
      skip
      go_wp2_with fail
      go_roundw
      case rel => exact ⟨j + 1, by omega, by go_num, below_drew HB1.out⟩
      case measure => simp [intOf]; omega
    · obtain rfl : j = l.length := by omega
      have hi1 : ¬ (l.length : Int) < (l.length : Int) := by omega
      go_wp2_with fail
      go_ret
      exact ⟨rfl, hbel⟩
end Go.Proofs.YtmohbkniekeafaaGreatDoor



namespace Go.Proofs.YtmohbkniekeafaaGreatDoor
open Go.RowKit

set_option linter.unusedSimpArgs false
theorem fB_snoc (inter : Bool) (tsn : UInt32) (l : List Fs) (s : Fs) : fB inter tsn (l ++ [s]) = fB inter tsn l ++ fsB inter s := by
  unfold fB
  rw [List.map_append, List.flatten_append, List.append_assoc]
  simp
theorem wordF (s : Fs) (h : s.sq.toNat < 65536) : puts 4 [cntW s.st.toNat s.sq.toNat] = fsB false s := by
  rw [cnt_two _ _ s.st.toNat_lt h]
  unfold fsB
  rw [if_neg (by simp)]
  have e : u32of s.sq.toNat = s.sq := UInt32.toNat_inj.1 (by rw [u32of_toNat (by omega)])
  rw [e]
theorem wordT (s : Fs) : puts 4 [cntW s.st.toNat (unN s.un).toNat, s.sq] = fsB true s := by
  rw [show [cntW s.st.toNat (unN s.un).toNat, s.sq] = [cntW s.st.toNat (unN s.un).toNat] ++ [s.sq] from rfl, puts_cat, cnt_two _ _ s.st.toNat_lt (unN s.un).toNat_lt]
  unfold fsB
  rw [if_pos rfl]
theorem cntW_val (a b : Nat) (ha : a < 65536) (hb : b < 65536) : Value.int .u32 ((a : Int) * 65536 + (b : Int)) = uv (cntW a b) := by
  rw [uv, cntW, u32of_toNat (by omega)]
  congr 1
set_option maxRecDepth 100000 in
set_option maxHeartbeats 16000000 in
theorem rmake16_false (tsn : UInt32) (l : List Fs) (A : Option Addr) (c : Nat) (w : World) (h : FsL w w.heap.size A c l) (hl : l.length ≤ 16381) (hs : ∀ s ∈ l, onlyB s = false) :
    Calls Tryz.prog 27 #[.bool false, uv tsn, .slice A l.length c] w fun e w' => Below w.heap.size w w' ∧ ∃ A' c', e = .returned (.agg #[.int .u8 192, .int .u8 0, .slice A' (4 + l.length * 4) c', .slice none 0 0]) ∧
      w'.ownsRow w.heap.size 5 1 (.slice A' (4 + l.length * 4) c') (4 + l.length * 4) ((fB false tsn l).map bv) := by
  have b0 : Below w.heap.size w (w.alloc (.cells #[.int .u8 0, .int .u8 0, .slice none 0 0, .slice none 0 0] 44)) := (Below.refl _ w).alloc (Nat.le_refl _) _
  have y0 := Whole.new w 44 #[.int .u8 0, .int .u8 0, .slice none 0 0, .slice none 0 0]
  have hz : w.heap.size + 1 = (w.alloc (.cells #[.int .u8 0, .int .u8 0, .slice none 0 0, .slice none 0 0] 44)).heap.size := by simp
  have HG := Lib.hid h
  have HB := Lib.hid b0
  clear h b0
  go_enter Tryz.func27, Tryz.ntmps27
  go_upto_region 1 with fail
  generalize w.alloc (.cells #[.int .u8 0, .int .u8 0, .slice none 0 0, .slice none 0 0] 44) = wa at *
  have v1 : Below wa.heap.size wa (wa.alloc (.cells #[uv tsn] 22)) := (Below.refl _ _).alloc (Nat.le_refl _) _
  have hsz1 : wa.heap.size ≤ (wa.alloc (.cells #[uv tsn] 22)).heap.size := v1.size
  have hP : Calls Tryz.prog 77 #[.int .i64 4, .slice (some ⟨wa.heap.size, 0, none⟩) 1 1] (wa.alloc (.cells #[uv tsn] 22)) fun e w' => ∃ A' c', e = .returned (.slice A' 4 c') ∧ w'.ownsRow (wa.alloc (.cells #[uv tsn] 22)).heap.size 5 1 (.slice A' 4 c') 4 ((puts 4 [tsn]).map bv) ∧ Below (wa.alloc (.cells #[uv tsn] 22)).heap.size (wa.alloc (.cells #[uv tsn] 22)) w' := rput_any 4 (.inr (.inr rfl)) _ 1 [tsn] _ ((lies_new wa [tsn]).more (by simp)) (by simp)
  go_wp2_with fail
  generalize wa.alloc (.cells #[uv tsn] 22) = wb at *
  refine hP.mono ?_
  rintro e w1 ⟨A1, c1, rfl, hown, b1⟩
  have B1 : Below w.heap.size w w1 := HB.out.trans ((v1.trans (b1.mono hsz1)).mono (by omega))
  have y1 := y0.below (v1.trans (b1.mono hsz1)) (by omega)
  have O1 := own_base hown (show w.heap.size ≤ wb.heap.size by omega)
  clear hP hown b1 v1 y0 HB
  go_upto_region 2 with fail
  have z2 := Whole.new w1 44 #[.int .u8 192, .int .u8 0, .slice A1 4 c1, .slice none 0 0]
  have y2 := y1.alloc (.cells #[.int .u8 192, .int .u8 0, .slice A1 4 c1, .slice none 0 0] 44)
  have O2 := O1.alloc (.cells #[.int .u8 192, .int .u8 0, .slice A1 4 c1, .slice none 0 0] 44)
  have B2 := B1.alloc B1.size (.cells #[.int .u8 192, .int .u8 0, .slice A1 4 c1, .slice none 0 0] 44)
  have hg7 : w.heap.size < w1.heap.size := y1.lt
  generalize w1.alloc (.cells #[.int .u8 192, .int .u8 0, .slice A1 4 c1, .slice none 0 0] 44) = w2 at *
  generalize w1.heap.size = g7 at *
  clear y1 O1 B1 hz hsz1
  have hI : Hid (w2.ownsRow w.heap.size 5 1 (.slice A1 (4 + 0 * 4) c1) (4 + 0 * 4) ((fB false tsn (l.take 0)).map bv)) := by
    unfold Hid
    rw [List.take_zero]
    have e : fB false tsn [] = puts 4 [tsn] := by unfold fB; simp
    rw [e]
    simpa using O2
  clear O2
  go_upto_region 3 with fail
  go_loopw [8] (fun i wr => ∃ (j : Nat) (Al : Option Addr) (cl : Nat), j ≤ l.length ∧ i = .int .i64 (j : Int) ∧ Whole wr g7 44 #[.int .u8 192, .int .u8 0, .slice Al (4 + j * 4) cl, .slice none 0 0] ∧ Hid (wr.ownsRow w.heap.size 5 1 (.slice Al (4 + j * 4) cl) (4 + j * 4) ((fB false tsn (l.take j)).map bv)) ∧ Whole wr w.heap.size 44 #[.int .u8 0, .int .u8 0, .slice none 0 0, .slice none 0 0] ∧ Below w.heap.size w wr) (fun i _ => l.length - (intOf i).toNat)
  case atStart => exact ⟨0, A1, c1, Nat.zero_le _, rfl, z2, hI, y2, B2⟩
  case round =>
    obtain ⟨j, Al, cl, hj, rfl, hw, hR, hy, hbel⟩ := hrel
    have hwr := hbel.size
    by_cases hlt : j < l.length
    · obtain ⟨s, hs2⟩ : ∃ s, l[j]? = some s := ⟨_, List.getElem?_eq_getElem hlt⟩
      obtain ⟨ad, rfl, hadb, c0, c1, c2⟩ := (HG.out.below hbel).at_ hs2
      have hi1 : (j : Int) < (l.length : Int) := by omega
      have HT : Hid (fB false tsn (l.take (j + 1)) = fB false tsn (l.take j) ++ fsB false s) := Lib.hid (by rw [take_some hs2, fB_snoc])
      have hst := s.st.toNat_lt
      have hq : s.sq.toNat < 65536 := by
        have h1 := hs s (List.mem_of_getElem? hs2)
        unfold onlyB at h1
        simp only [Bool.or_eq_false_iff, decide_eq_false_iff_not] at h1
        omega
      have hm1 : (s.st.toNat : Int) % 4294967296 = (s.st.toNat : Int) := by omega
      have hm3 : ((s.st.toNat : Int) * 65536) % 4294967296 = (s.st.toNat : Int) * 65536 := by omega
      have hm4 : ((s.st.toNat : Int) * 65536 + (s.sq.toNat : Int)) % 4294967296 = (s.st.toNat : Int) * 65536 + (s.sq.toNat : Int) := by omega
      have HE : Hid (Value.int .u32 (IntKind.u32.wrap (IntKind.u32.wrap (IntKind.u32.wrap (s.st.toNat : Int) * 65536) + (s.sq.toNat : Int))) = uv (cntW s.st.toNat s.sq.toNat)) := Lib.hid (by simp only [IntKind.wrap_u32, hm1, hm3, hm4]; exact cntW_val _ _ hst hq)
      have HF : Hid (puts 4 [cntW s.st.toNat s.sq.toNat] = fsB false s) := Lib.hid (wordF s hq)
      have KS : Hid (∀ W, Below w.heap.size wr W → W.cell? (ad.add (j * 3)) = some (hv s.st) ∧ W.cell? ⟨(ad.add (j * 3)).block, (ad.add (j * 3)).off + 1, none⟩ = some (.bool s.un) ∧ W.cell? ⟨(ad.add (j * 3)).block, (ad.add (j * 3)).off + 2, none⟩ = some (uv s.sq)) := Lib.hid (fun W hW => ⟨(hW.cell (p := ad.add (j * 3)) (by rw [blk_add]; exact hadb)).trans c0, (hW.cell (p := ⟨(ad.add (j * 3)).block, (ad.add (j * 3)).off + 1, none⟩) (by show (ad.add (j * 3)).block < _; rw [blk_add]; exact hadb)).trans c1, (hW.cell (p := ⟨(ad.add (j * 3)).block, (ad.add (j * 3)).off + 2, none⟩) (by show (ad.add (j * 3)).block < _; rw [blk_add]; exact hadb)).trans c2⟩)
      have KC : Hid (∀ W, Below wr.heap.size wr W → W.cell? ⟨g7, 2, none⟩ = some (.slice Al (4 + j * 4) cl)) := Lib.hid (fun W hW => (wh4 (hw.below hW hw.lt)).2.2.1)
      obtain ⟨st, un, sq⟩ := s
      simp only at *
      clear hs2 c0 c1 c2
      go_upto_region 6 with fail
      refine wp_region_held_drew (S := (fun W => W.cell? (ad.add (j * 3)) = some (hv st) ∧ W.cell? ⟨(ad.add (j * 3)).block, (ad.add (j * 3)).off + 1, none⟩ = some (.bool un) ∧ W.cell? ⟨(ad.add (j * 3)).block, (ad.add (j * 3)).off + 2, none⟩ = some (uv sq))) (by kernel_rfl) (KS.out _ (below_drew (Below.refl _ _))) (fun hHeld => ?_)
      refine take_at (i := 0) (v := ?_) (some 22) rfl (by kernel_rfl) (by kernel_rfl) (by kernel_rfl) (fun _ _ _ h => h) (by kernel_rfl) (Or.inl ⟨by kernel_rfl, ?_⟩) (by assumption) ?_
      rotate_left
      · (intro w hSw; (try dsimp only at hSw); go_simp <;> with_reducible rfl)
      simp only [Act.put, List.setIfInBounds_toArray, List.set_cons_zero, List.set_cons_succ]
      refine take_at (i := 2) (v := ?_) (some 24) rfl (by kernel_rfl) (by kernel_rfl) (by kernel_rfl) (fun _ _ _ h => h) (by kernel_rfl) (Or.inl ⟨by kernel_rfl, ?_⟩) (by assumption) ?_
      rotate_left
      · (intro w hSw; (try dsimp only at hSw); go_simp <;> with_reducible rfl)
      simp only [Act.put, List.setIfInBounds_toArray, List.set_cons_zero, List.set_cons_succ]
      refine take_at (i := 3) (v := ?_) (some 25) rfl (by kernel_rfl) (by kernel_rfl) (by kernel_rfl) (fun _ _ _ h => h) (by kernel_rfl) (Or.inl ⟨by kernel_rfl, ?_⟩) (by assumption) ?_
      rotate_left
      · (intro w hSw; (try dsimp only at hSw); go_simp <;> with_reducible rfl)
      simp only [Act.put, List.setIfInBounds_toArray, List.set_cons_zero, List.set_cons_succ]
      refine take_at (i := 4) (v := ?_) (some 26) rfl (by kernel_rfl) (by kernel_rfl) (by kernel_rfl) (fun _ _ _ h => h) (by kernel_rfl) (Or.inl ⟨by kernel_rfl, ?_⟩) (by assumption) ?_
      rotate_left
      · (intro w hSw; (try dsimp only at hSw); go_simp <;> with_reducible rfl)
      simp only [Act.put, List.setIfInBounds_toArray, List.set_cons_zero, List.set_cons_succ]
      refine take_at (i := 5) (v := ?_) (some 27) rfl (by kernel_rfl) (by kernel_rfl) (by kernel_rfl) (fun _ _ _ h => h) (by kernel_rfl) (Or.inl ⟨by kernel_rfl, ?_⟩) (by assumption) ?_
      rotate_left
      · (intro w hSw; (try dsimp only at hSw); go_simp <;> with_reducible rfl)
      simp only [Act.put, List.setIfInBounds_toArray, List.set_cons_zero, List.set_cons_succ]
      refine take_at (i := 6) (v := ?_) (some 28) rfl (by kernel_rfl) (by kernel_rfl) (by kernel_rfl) (fun _ _ _ h => h) (by kernel_rfl) (Or.inl ⟨by kernel_rfl, ?_⟩) (by assumption) ?_
      rotate_left
      · (intro w hSw; (try dsimp only at hSw); go_simp <;> with_reducible rfl)
      simp only [Act.put, List.setIfInBounds_toArray, List.set_cons_zero, List.set_cons_succ]
      refine take_at (i := 7) (v := ?_) (some 29) rfl (by kernel_rfl) (by kernel_rfl) (by kernel_rfl) (fun _ _ _ h => h) (by kernel_rfl) (Or.inl ⟨by kernel_rfl, ?_⟩) (by assumption) ?_
      rotate_left
      · (intro w hSw; (try dsimp only at hSw); go_simp <;> with_reducible rfl)
      simp only [Act.put, List.setIfInBounds_toArray, List.set_cons_zero, List.set_cons_succ]
      refine take_at (i := 8) (v := ?_) (some 30) rfl (by kernel_rfl) (by kernel_rfl) (by kernel_rfl) (fun _ _ _ h => h) (by kernel_rfl) (Or.inl ⟨by kernel_rfl, ?_⟩) (by assumption) ?_
      rotate_left
      · (intro w hSw; (try dsimp only at hSw); go_simp <;> with_reducible rfl)
      simp only [Act.put, List.setIfInBounds_toArray, List.set_cons_zero, List.set_cons_succ]
      refine take_at (i := 9) (v := ?_) (some 31) rfl (by kernel_rfl) (by kernel_rfl) (by kernel_rfl) (fun _ _ _ h => h) (by kernel_rfl) (Or.inl ⟨by kernel_rfl, ?_⟩) (by assumption) ?_
      rotate_left
      · (intro w hSw; (try dsimp only at hSw); go_simp <;> with_reducible rfl)
      simp only [Act.put, List.setIfInBounds_toArray, List.set_cons_zero, List.set_cons_succ]
      refine take_at (i := 10) (v := ?_) (some 32) rfl (by kernel_rfl) (by kernel_rfl) (by kernel_rfl) (fun _ _ _ h => h) (by kernel_rfl) (Or.inl ⟨by kernel_rfl, ?_⟩) (by assumption) ?_
      rotate_left
      · (intro w hSw; (try dsimp only at hSw); go_simp <;> with_reducible rfl)
      simp only [Act.put, List.setIfInBounds_toArray, List.set_cons_zero, List.set_cons_succ]
      refine take_at (i := 11) (v := ?_) (some 33) rfl (by kernel_rfl) (by kernel_rfl) (by kernel_rfl) (fun _ _ _ h => h) (by kernel_rfl) (Or.inl ⟨by kernel_rfl, ?_⟩) (by assumption) ?_
      rotate_left
      · (intro w hSw; (try dsimp only at hSw); go_simp <;> with_reducible rfl)
      simp only [Act.put, List.setIfInBounds_toArray, List.set_cons_zero, List.set_cons_succ]
      refine take_at (i := 12) (v := ?_) (some 34) rfl (by kernel_rfl) (by kernel_rfl) (by kernel_rfl) (fun _ _ _ h => h) (by kernel_rfl) (Or.inl ⟨by kernel_rfl, ?_⟩) (by assumption) ?_
      rotate_left
      · (intro w hSw; (try dsimp only at hSw); go_simp <;> with_reducible rfl)
      simp only [Act.put, List.setIfInBounds_toArray, List.set_cons_zero, List.set_cons_succ]
      refine take_at (i := 13) (v := ?_) (some 35) rfl (by kernel_rfl) (by kernel_rfl) (by kernel_rfl) (fun _ _ _ h => h) (by kernel_rfl) (Or.inl ⟨by kernel_rfl, ?_⟩) (by assumption) ?_
      rotate_left
      · (intro w hSw; (try dsimp only at hSw); go_simp <;> with_reducible rfl)
      simp only [Act.put, List.setIfInBounds_toArray, List.set_cons_zero, List.set_cons_succ]
      refine take_at (i := 14) (v := ?_) (some 36) rfl (by kernel_rfl) (by kernel_rfl) (by kernel_rfl) (fun _ _ _ h => h) (by kernel_rfl) (Or.inl ⟨by kernel_rfl, ?_⟩) (by assumption) ?_
      rotate_left
      · (intro w hSw; (try dsimp only at hSw); go_simp <;> with_reducible rfl)
      simp only [Act.put, List.setIfInBounds_toArray, List.set_cons_zero, List.set_cons_succ]
      refine wpAnyH_ready (rs := [1, 15]) (by kernel_rfl) (by simp) ?_
      refine AllReadyH.cons rfl (fun K hK => ?_) (AllReadyH.cons rfl (fun K hK => ?_) AllReadyH.nil)
      · have l0 := KC.out wr.drew (below_drew (Below.refl wr.heap.size wr))
        go_simp
        clear l0
        clear hHeld
        refine hK.out _ _ (KS.out _ ((below_drew (Below.refl wr.heap.size wr)).mono hwr)) (fun hHeld => ?_)
        clear hK K
        try simp only [Act.put, List.setIfInBounds_toArray, List.set_cons_zero, List.set_cons_succ]
        refine wpAnyH_ready (rs := [15]) (by kernel_rfl) (by simp) ?_
        refine AllReadyH.cons rfl (fun K hK => ?_) AllReadyH.nil
        go_simp
        (try rw [HE.out])
        have bA : Below wr.heap.size wr (wr.alloc (.cells #[uv (cntW st.toNat sq.toNat)] 22)).drew := below_drew ((Below.refl _ _).alloc (Nat.le_refl _) _)
        have LA : Lies (wr.alloc (.cells #[uv (cntW st.toNat sq.toNat)] 22)).drew (wr.alloc (.cells #[uv (cntW st.toNat sq.toNat)] 22)).drew.heap.size (some ⟨wr.heap.size, 0, none⟩) ([cntW st.toNat sq.toNat].map uv) := ((lies_new wr [cntW st.toNat sq.toNat]).below (below_drew (Below.refl _ _))).more (by show _ ≤ (wr.alloc _).heap.size; simp)
        have oA := own_below' hR.out bA
        generalize (wr.alloc (.cells #[uv (cntW st.toNat sq.toNat)] 22)).drew = wA at *
        clear hHeld
        refine hK.out _ _ (KS.out _ (bA.mono hwr)) (fun hHeld => ?_)
        clear hK K
        try simp only [Act.put, List.setIfInBounds_toArray, List.set_cons_zero, List.set_cons_succ]
        refine wpAnyH_ready (rs := [16]) (by kernel_rfl) (by simp) ?_
        refine AllReadyH.cons rfl (fun K hK => ?_) AllReadyH.nil
        have hP : Calls Tryz.prog 77 #[.int .i64 4, .slice (some ⟨wr.heap.size, 0, none⟩) 1 1] wA fun e w' => ∃ A' c', e = .returned (.slice A' 4 c') ∧ w'.ownsRow wA.heap.size 5 1 (.slice A' 4 c') 4 ((puts 4 [cntW st.toNat sq.toNat]).map bv) ∧ Below wA.heap.size wA w' := rput_any 4 (.inr (.inr rfl)) _ 1 [cntW st.toNat sq.toNat] wA LA (by simp)
        go_simp
        go_at_call 77; (with_reducible refine hP.mono ?_); rintro e wB ⟨A5, c5, rfl, oB2, bB⟩
        go_wp2_with fail
        have oB := own_below' oA bB
        have RB := bA.trans (bB.mono bA.size)
        have sB := RB.size
        clear hP LA
        clear hHeld
        refine hK.out _ _ (KS.out _ (RB.mono hwr)) (fun hHeld => ?_)
        clear hK K
        try simp only [Act.put, List.setIfInBounds_toArray, List.set_cons_zero, List.set_cons_succ]
        refine wpAnyH_ready (rs := [17]) (by kernel_rfl) (by simp) ?_
        refine AllReadyH.cons rfl (fun K hK => ?_) AllReadyH.nil
        refine wp_append_lies _ (.tmp 23) (.tmp 38) 41 rfl w.heap.size 5 _ 1 Tryz.underlying41 u8info rfl (.slice Al (4 + j * 4) cl) (4 + j * 4) _ rfl oB wB.heap.size A5 4 c5 ((puts 4 [cntW st.toNat sq.toNat]).map bv) rfl (by simp [puts_len]) (Lies.own oB2) (by intro u hu; obtain ⟨_, _, rfl⟩ := List.mem_map.1 hu; rfl) (by omega) (by unfold maxLen; omega) (by omega) ?_
        intro A6 c6 wC oC gC _
        have x6 : Whole wC g7 44 _ := (hw.below RB hw.lt).grown gC (fun e => whole_row_ne13 (hw.below RB hw.lt) (by decide) oB e.symm)
        have y6 : Whole wC w.heap.size 44 #[.int .u8 0, .int .u8 0, .slice none 0 0, .slice none 0 0] := (hy.below RB hy.lt).grown gC (fun e => whole_row_ne13 (hy.below RB hy.lt) (by decide) oB e.symm)
        have c6b : Below w.heap.size wr wC := (RB.mono hwr).grown gC (by omega) (fun r e => (oB.lt r e).1)
        have OC : Hid (wC.ownsRow w.heap.size 5 1 (.slice A6 (4 + (j + 1) * 4) c6) (4 + (j + 1) * 4) ((fB false tsn (l.take (j + 1))).map bv)) := by
          unfold Hid
          rw [HT.out, ← HF.out, List.map_append, show 4 + (j + 1) * 4 = 4 + j * 4 + 4 by omega]
          exact oC
        have e6 := (wh4 x6).2.2.1
        have f6 := x6.frozen 2
        clear oC oB oB2 gC oA
        clear hHeld
        refine hK.out _ _ (KS.out _ c6b) (fun hHeld => ?_)
        clear hK K
        try simp only [Act.put, List.setIfInBounds_toArray, List.set_cons_zero, List.set_cons_succ]
        refine take_at (i := 18) (v := ?_) (some 40) rfl (by kernel_rfl) (by kernel_rfl) (by kernel_rfl) (fun _ _ _ h => h) (by kernel_rfl) (Or.inl ⟨by kernel_rfl, ?_⟩) (by assumption) ?_
        rotate_left
        · (intro w hSw; (try dsimp only at hSw); go_simp <;> with_reducible rfl)
        simp only [Act.put, List.setIfInBounds_toArray, List.set_cons_zero, List.set_cons_succ]
        refine wpAnyH_ready (rs := [19]) (by kernel_rfl) (by simp) ?_
        refine AllReadyH.cons rfl (fun K hK => ?_) AllReadyH.nil
        go_simp
        have x7 := x6.set_ 2 (.slice A6 (4 + j * 4 + 4) c6)
        have y7 := y6.far (p := ⟨g7, 2, none⟩) (by show w.heap.size ≠ g7; omega) (.slice A6 (4 + j * 4 + 4) c6)
        have b6 := hbel.trans c6b
        have b7 := b6.setCell (p := ⟨g7, 2, none⟩) (by show w.heap.size ≤ g7; omega) (.slice A6 (4 + j * 4 + 4) c6)
        have o7 : Hid (World.ownsRow _ w.heap.size 5 1 _ _ _) := Lib.hid (own_set13 (i := 2) (u := .slice A6 (4 + j * 4 + 4) c6) OC.out x6 (by decide))
        clear hHeld
        refine hK.out _ _ (KS.out _ (c6b.setCell (p := ⟨g7, 2, none⟩) (by show w.heap.size ≤ g7; omega) _)) (fun hHeld => ?_)
        clear hK K
        try simp only [Act.put, List.setIfInBounds_toArray, List.set_cons_zero, List.set_cons_succ]
        refine wpAnyH_done (by kernel_rfl) ?_ _
        go_wp2_with fail
        go_roundw
        case rel => exact ⟨j + 1, A6, c6, by omega, by go_num, by rw [show 4 + (j + 1) * 4 = 4 + j * 4 + 4 by omega]; exact x7, o7, y7, b7⟩
        case measure => simp [intOf]; omega
      · go_simp
        (try rw [HE.out])
        have bA : Below wr.heap.size wr (wr.alloc (.cells #[uv (cntW st.toNat sq.toNat)] 22)).drew := below_drew ((Below.refl _ _).alloc (Nat.le_refl _) _)
        have LA : Lies (wr.alloc (.cells #[uv (cntW st.toNat sq.toNat)] 22)).drew (wr.alloc (.cells #[uv (cntW st.toNat sq.toNat)] 22)).drew.heap.size (some ⟨wr.heap.size, 0, none⟩) ([cntW st.toNat sq.toNat].map uv) := ((lies_new wr [cntW st.toNat sq.toNat]).below (below_drew (Below.refl _ _))).more (by show _ ≤ (wr.alloc _).heap.size; simp)
        have oA := own_below' hR.out bA
        generalize (wr.alloc (.cells #[uv (cntW st.toNat sq.toNat)] 22)).drew = wA at *
        clear hHeld
        refine hK.out _ _ (KS.out _ (bA.mono hwr)) (fun hHeld => ?_)
        clear hK K
        try simp only [Act.put, List.setIfInBounds_toArray, List.set_cons_zero, List.set_cons_succ]
        refine wpAnyH_ready (rs := [1, 16]) (by kernel_rfl) (by simp) ?_
        refine AllReadyH.cons rfl (fun K hK => ?_) (AllReadyH.cons rfl (fun K hK => ?_) AllReadyH.nil)
        · have l0 := KC.out wA bA
          go_simp
          clear l0
          clear hHeld
          refine hK.out _ _ (KS.out _ (bA.mono hwr)) (fun hHeld => ?_)
          clear hK K
          try simp only [Act.put, List.setIfInBounds_toArray, List.set_cons_zero, List.set_cons_succ]
          refine wpAnyH_ready (rs := [16]) (by kernel_rfl) (by simp) ?_
          refine AllReadyH.cons rfl (fun K hK => ?_) AllReadyH.nil
          have hP : Calls Tryz.prog 77 #[.int .i64 4, .slice (some ⟨wr.heap.size, 0, none⟩) 1 1] wA fun e w' => ∃ A' c', e = .returned (.slice A' 4 c') ∧ w'.ownsRow wA.heap.size 5 1 (.slice A' 4 c') 4 ((puts 4 [cntW st.toNat sq.toNat]).map bv) ∧ Below wA.heap.size wA w' := rput_any 4 (.inr (.inr rfl)) _ 1 [cntW st.toNat sq.toNat] wA LA (by simp)
          go_simp
          go_at_call 77; (with_reducible refine hP.mono ?_); rintro e wB ⟨A5, c5, rfl, oB2, bB⟩
          go_wp2_with fail
          have oB := own_below' oA bB
          have RB := bA.trans (bB.mono bA.size)
          have sB := RB.size
          clear hP LA
          clear hHeld
          refine hK.out _ _ (KS.out _ (RB.mono hwr)) (fun hHeld => ?_)
          clear hK K
          try simp only [Act.put, List.setIfInBounds_toArray, List.set_cons_zero, List.set_cons_succ]
          refine wpAnyH_ready (rs := [17]) (by kernel_rfl) (by simp) ?_
          refine AllReadyH.cons rfl (fun K hK => ?_) AllReadyH.nil
          refine wp_append_lies _ (.tmp 23) (.tmp 38) 41 rfl w.heap.size 5 _ 1 Tryz.underlying41 u8info rfl (.slice Al (4 + j * 4) cl) (4 + j * 4) _ rfl oB wB.heap.size A5 4 c5 ((puts 4 [cntW st.toNat sq.toNat]).map bv) rfl (by simp [puts_len]) (Lies.own oB2) (by intro u hu; obtain ⟨_, _, rfl⟩ := List.mem_map.1 hu; rfl) (by omega) (by unfold maxLen; omega) (by omega) ?_
          intro A6 c6 wC oC gC _
          have x6 : Whole wC g7 44 _ := (hw.below RB hw.lt).grown gC (fun e => whole_row_ne13 (hw.below RB hw.lt) (by decide) oB e.symm)
          have y6 : Whole wC w.heap.size 44 #[.int .u8 0, .int .u8 0, .slice none 0 0, .slice none 0 0] := (hy.below RB hy.lt).grown gC (fun e => whole_row_ne13 (hy.below RB hy.lt) (by decide) oB e.symm)
          have c6b : Below w.heap.size wr wC := (RB.mono hwr).grown gC (by omega) (fun r e => (oB.lt r e).1)
          have OC : Hid (wC.ownsRow w.heap.size 5 1 (.slice A6 (4 + (j + 1) * 4) c6) (4 + (j + 1) * 4) ((fB false tsn (l.take (j + 1))).map bv)) := by
            unfold Hid
            rw [HT.out, ← HF.out, List.map_append, show 4 + (j + 1) * 4 = 4 + j * 4 + 4 by omega]
            exact oC
          have e6 := (wh4 x6).2.2.1
          have f6 := x6.frozen 2
          clear oC oB oB2 gC oA
          clear hHeld
          refine hK.out _ _ (KS.out _ c6b) (fun hHeld => ?_)
          clear hK K
          try simp only [Act.put, List.setIfInBounds_toArray, List.set_cons_zero, List.set_cons_succ]
          refine take_at (i := 18) (v := ?_) (some 40) rfl (by kernel_rfl) (by kernel_rfl) (by kernel_rfl) (fun _ _ _ h => h) (by kernel_rfl) (Or.inl ⟨by kernel_rfl, ?_⟩) (by assumption) ?_
          rotate_left
          · (intro w hSw; (try dsimp only at hSw); go_simp <;> with_reducible rfl)
          simp only [Act.put, List.setIfInBounds_toArray, List.set_cons_zero, List.set_cons_succ]
          refine wpAnyH_ready (rs := [19]) (by kernel_rfl) (by simp) ?_
          refine AllReadyH.cons rfl (fun K hK => ?_) AllReadyH.nil
          go_simp
          have x7 := x6.set_ 2 (.slice A6 (4 + j * 4 + 4) c6)
          have y7 := y6.far (p := ⟨g7, 2, none⟩) (by show w.heap.size ≠ g7; omega) (.slice A6 (4 + j * 4 + 4) c6)
          have b6 := hbel.trans c6b
          have b7 := b6.setCell (p := ⟨g7, 2, none⟩) (by show w.heap.size ≤ g7; omega) (.slice A6 (4 + j * 4 + 4) c6)
          have o7 : Hid (World.ownsRow _ w.heap.size 5 1 _ _ _) := Lib.hid (own_set13 (i := 2) (u := .slice A6 (4 + j * 4 + 4) c6) OC.out x6 (by decide))
          clear hHeld
          refine hK.out _ _ (KS.out _ (c6b.setCell (p := ⟨g7, 2, none⟩) (by show w.heap.size ≤ g7; omega) _)) (fun hHeld => ?_)
          clear hK K
          try simp only [Act.put, List.setIfInBounds_toArray, List.set_cons_zero, List.set_cons_succ]
          refine wpAnyH_done (by kernel_rfl) ?_ _
          go_wp2_with fail
          go_roundw
          case rel => exact ⟨j + 1, A6, c6, by omega, by go_num, by rw [show 4 + (j + 1) * 4 = 4 + j * 4 + 4 by omega]; exact x7, o7, y7, b7⟩
          case measure => simp [intOf]; omega
        · have hP : Calls Tryz.prog 77 #[.int .i64 4, .slice (some ⟨wr.heap.size, 0, none⟩) 1 1] wA fun e w' => ∃ A' c', e = .returned (.slice A' 4 c') ∧ w'.ownsRow wA.heap.size 5 1 (.slice A' 4 c') 4 ((puts 4 [cntW st.toNat sq.toNat]).map bv) ∧ Below wA.heap.size wA w' := rput_any 4 (.inr (.inr rfl)) _ 1 [cntW st.toNat sq.toNat] wA LA (by simp)
          go_simp
          go_at_call 77; (with_reducible refine hP.mono ?_); rintro e wB ⟨A5, c5, rfl, oB2, bB⟩
          go_wp2_with fail
          have oB := own_below' oA bB
          have RB := bA.trans (bB.mono bA.size)
          have sB := RB.size
          clear hP LA
          clear hHeld
          refine hK.out _ _ (KS.out _ (RB.mono hwr)) (fun hHeld => ?_)
          clear hK K
          try simp only [Act.put, List.setIfInBounds_toArray, List.set_cons_zero, List.set_cons_succ]
          refine wpAnyH_ready (rs := [1]) (by kernel_rfl) (by simp) ?_
          refine AllReadyH.cons rfl (fun K hK => ?_) AllReadyH.nil
          have l0 := KC.out wB RB
          go_simp
          clear l0
          clear hHeld
          refine hK.out _ _ (KS.out _ (RB.mono hwr)) (fun hHeld => ?_)
          clear hK K
          try simp only [Act.put, List.setIfInBounds_toArray, List.set_cons_zero, List.set_cons_succ]
          refine wpAnyH_ready (rs := [17]) (by kernel_rfl) (by simp) ?_
          refine AllReadyH.cons rfl (fun K hK => ?_) AllReadyH.nil
          refine wp_append_lies _ (.tmp 23) (.tmp 38) 41 rfl w.heap.size 5 _ 1 Tryz.underlying41 u8info rfl (.slice Al (4 + j * 4) cl) (4 + j * 4) _ rfl oB wB.heap.size A5 4 c5 ((puts 4 [cntW st.toNat sq.toNat]).map bv) rfl (by simp [puts_len]) (Lies.own oB2) (by intro u hu; obtain ⟨_, _, rfl⟩ := List.mem_map.1 hu; rfl) (by omega) (by unfold maxLen; omega) (by omega) ?_
          intro A6 c6 wC oC gC _
          have x6 : Whole wC g7 44 _ := (hw.below RB hw.lt).grown gC (fun e => whole_row_ne13 (hw.below RB hw.lt) (by decide) oB e.symm)
          have y6 : Whole wC w.heap.size 44 #[.int .u8 0, .int .u8 0, .slice none 0 0, .slice none 0 0] := (hy.below RB hy.lt).grown gC (fun e => whole_row_ne13 (hy.below RB hy.lt) (by decide) oB e.symm)
          have c6b : Below w.heap.size wr wC := (RB.mono hwr).grown gC (by omega) (fun r e => (oB.lt r e).1)
          have OC : Hid (wC.ownsRow w.heap.size 5 1 (.slice A6 (4 + (j + 1) * 4) c6) (4 + (j + 1) * 4) ((fB false tsn (l.take (j + 1))).map bv)) := by
            unfold Hid
            rw [HT.out, ← HF.out, List.map_append, show 4 + (j + 1) * 4 = 4 + j * 4 + 4 by omega]
            exact oC
          have e6 := (wh4 x6).2.2.1
          have f6 := x6.frozen 2
          clear oC oB oB2 gC oA
          clear hHeld
          refine hK.out _ _ (KS.out _ c6b) (fun hHeld => ?_)
          clear hK K
          try simp only [Act.put, List.setIfInBounds_toArray, List.set_cons_zero, List.set_cons_succ]
          refine take_at (i := 18) (v := ?_) (some 40) rfl (by kernel_rfl) (by kernel_rfl) (by kernel_rfl) (fun _ _ _ h => h) (by kernel_rfl) (Or.inl ⟨by kernel_rfl, ?_⟩) (by assumption) ?_
          rotate_left
          · (intro w hSw; (try dsimp only at hSw); go_simp <;> with_reducible rfl)
          simp only [Act.put, List.setIfInBounds_toArray, List.set_cons_zero, List.set_cons_succ]
          refine wpAnyH_ready (rs := [19]) (by kernel_rfl) (by simp) ?_
          refine AllReadyH.cons rfl (fun K hK => ?_) AllReadyH.nil
          go_simp
          have x7 := x6.set_ 2 (.slice A6 (4 + j * 4 + 4) c6)
          have y7 := y6.far (p := ⟨g7, 2, none⟩) (by show w.heap.size ≠ g7; omega) (.slice A6 (4 + j * 4 + 4) c6)
          have b6 := hbel.trans c6b
          have b7 := b6.setCell (p := ⟨g7, 2, none⟩) (by show w.heap.size ≤ g7; omega) (.slice A6 (4 + j * 4 + 4) c6)
          have o7 : Hid (World.ownsRow _ w.heap.size 5 1 _ _ _) := Lib.hid (own_set13 (i := 2) (u := .slice A6 (4 + j * 4 + 4) c6) OC.out x6 (by decide))
          clear hHeld
          refine hK.out _ _ (KS.out _ (c6b.setCell (p := ⟨g7, 2, none⟩) (by show w.heap.size ≤ g7; omega) _)) (fun hHeld => ?_)
          clear hK K
          try simp only [Act.put, List.setIfInBounds_toArray, List.set_cons_zero, List.set_cons_succ]
          refine wpAnyH_done (by kernel_rfl) ?_ _
          go_wp2_with fail
          go_roundw
          case rel => exact ⟨j + 1, A6, c6, by omega, by go_num, by rw [show 4 + (j + 1) * 4 = 4 + j * 4 + 4 by omega]; exact x7, o7, y7, b7⟩
          case measure => simp [intOf]; omega
    · obtain rfl : j = l.length := by omega
      have hi1 : ¬ (l.length : Int) < (l.length : Int) := by omega
      rw [List.take_length] at hR
      obtain ⟨r0, r1, r2, r3⟩ := wh4 hw
      obtain ⟨t0, t1, t2, t3⟩ := wh4 hy
      have f0 := hy.frozen 0
      have f1 := hy.frozen 1
      have f2 := hy.frozen 2
      have f3 := hy.frozen 3
      go_wp2_with fail
      refine bodyPost_ret (results_row13 rfl _ _ w.heap.size 44 _ _ rfl ((((hy.set_ 0 _).set_ 1 _).set_ 2 _).set_ 3 _) Tryz.underlying44 rfl (by kernel_rfl)) rfl ?_
      refine ⟨(((hbel.setCell (p := ⟨w.heap.size, 0, none⟩) (Nat.le_refl _) _).setCell (p := ⟨w.heap.size, 1, none⟩) (Nat.le_refl _) _).setCell (p := ⟨w.heap.size, 2, none⟩) (Nat.le_refl _) _).setCell (p := ⟨w.heap.size, 3, none⟩) (Nat.le_refl _) _, Al, cl, rfl, ?_⟩
      exact own_set13 (own_set13 (own_set13 (own_set13 hR.out hy (by decide)) (hy.set_ 0 _) (by decide)) ((hy.set_ 0 _).set_ 1 _) (by decide)) (((hy.set_ 0 _).set_ 1 _).set_ 2 _) (by decide)
set_option maxRecDepth 100000 in
set_option maxHeartbeats 16000000 in
theorem rmake16_true (tsn : UInt32) (l : List Fs) (A : Option Addr) (c : Nat) (w : World) (h : FsL w w.heap.size A c l) (hl : l.length ≤ 16381) :
    Calls Tryz.prog 27 #[.bool true, uv tsn, .slice A l.length c] w fun e w' => Below w.heap.size w w' ∧ ∃ A' c', e = .returned (.agg #[.int .u8 194, .int .u8 0, .slice A' (4 + l.length * 8) c', .slice none 0 0]) ∧
      w'.ownsRow w.heap.size 5 1 (.slice A' (4 + l.length * 8) c') (4 + l.length * 8) ((fB true tsn l).map bv) := by
  have b0 : Below w.heap.size w (w.alloc (.cells #[.int .u8 0, .int .u8 0, .slice none 0 0, .slice none 0 0] 44)) := (Below.refl _ w).alloc (Nat.le_refl _) _
  have y0 := Whole.new w 44 #[.int .u8 0, .int .u8 0, .slice none 0 0, .slice none 0 0]
  have hz : w.heap.size + 1 = (w.alloc (.cells #[.int .u8 0, .int .u8 0, .slice none 0 0, .slice none 0 0] 44)).heap.size := by simp
  have HG := Lib.hid h
  have HB := Lib.hid b0
  clear h b0
  go_enter Tryz.func27, Tryz.ntmps27
  go_upto_region 1 with fail
  generalize w.alloc (.cells #[.int .u8 0, .int .u8 0, .slice none 0 0, .slice none 0 0] 44) = wa at *
  have v1 : Below wa.heap.size wa (wa.alloc (.cells #[uv tsn] 22)) := (Below.refl _ _).alloc (Nat.le_refl _) _
  have hsz1 : wa.heap.size ≤ (wa.alloc (.cells #[uv tsn] 22)).heap.size := v1.size
  have hP : Calls Tryz.prog 77 #[.int .i64 4, .slice (some ⟨wa.heap.size, 0, none⟩) 1 1] (wa.alloc (.cells #[uv tsn] 22)) fun e w' => ∃ A' c', e = .returned (.slice A' 4 c') ∧ w'.ownsRow (wa.alloc (.cells #[uv tsn] 22)).heap.size 5 1 (.slice A' 4 c') 4 ((puts 4 [tsn]).map bv) ∧ Below (wa.alloc (.cells #[uv tsn] 22)).heap.size (wa.alloc (.cells #[uv tsn] 22)) w' := rput_any 4 (.inr (.inr rfl)) _ 1 [tsn] _ ((lies_new wa [tsn]).more (by simp)) (by simp)
  go_wp2_with fail
  generalize wa.alloc (.cells #[uv tsn] 22) = wb at *
  refine hP.mono ?_
  rintro e w1 ⟨A1, c1, rfl, hown, b1⟩
  have B1 : Below w.heap.size w w1 := HB.out.trans ((v1.trans (b1.mono hsz1)).mono (by omega))
  have y1 := y0.below (v1.trans (b1.mono hsz1)) (by omega)
  have O1 := own_base hown (show w.heap.size ≤ wb.heap.size by omega)
  clear hP hown b1 v1 y0 HB
  go_upto_region 2 with fail
  have z2 := Whole.new w1 44 #[.int .u8 192, .int .u8 0, .slice A1 4 c1, .slice none 0 0]
  have y2 := y1.alloc (.cells #[.int .u8 192, .int .u8 0, .slice A1 4 c1, .slice none 0 0] 44)
  have O2 := O1.alloc (.cells #[.int .u8 192, .int .u8 0, .slice A1 4 c1, .slice none 0 0] 44)
  have B2 := B1.alloc B1.size (.cells #[.int .u8 192, .int .u8 0, .slice A1 4 c1, .slice none 0 0] 44)
  have hg7 : w.heap.size < w1.heap.size := y1.lt
  generalize w1.alloc (.cells #[.int .u8 192, .int .u8 0, .slice A1 4 c1, .slice none 0 0] 44) = w2 at *
  generalize w1.heap.size = g7 at *
  clear y1 O1 B1 hz hsz1
  have hI : Hid (w2.ownsRow w.heap.size 5 1 (.slice A1 (4 + 0 * 8) c1) (4 + 0 * 8) ((fB true tsn (l.take 0)).map bv)) := by
    unfold Hid
    rw [List.take_zero]
    have e : fB true tsn [] = puts 4 [tsn] := by unfold fB; simp
    rw [e]
    simpa using O2
  clear O2
  go_upto_region 3 with fail
  go_loopw [8] (fun i wr => ∃ (j : Nat) (Al : Option Addr) (cl : Nat), j ≤ l.length ∧ i = .int .i64 (j : Int) ∧ Whole wr g7 44 #[.int .u8 192, .int .u8 0, .slice Al (4 + j * 8) cl, .slice none 0 0] ∧ Hid (wr.ownsRow w.heap.size 5 1 (.slice Al (4 + j * 8) cl) (4 + j * 8) ((fB true tsn (l.take j)).map bv)) ∧ Whole wr w.heap.size 44 #[.int .u8 0, .int .u8 0, .slice none 0 0, .slice none 0 0] ∧ Below w.heap.size w wr) (fun i _ => l.length - (intOf i).toNat)
  case atStart => exact ⟨0, A1, c1, Nat.zero_le _, rfl, z2, hI, y2, B2⟩
  case round =>
    obtain ⟨j, Al, cl, hj, rfl, hw, hR, hy, hbel⟩ := hrel
    have hwr := hbel.size
    by_cases hlt : j < l.length
    · obtain ⟨s, hs⟩ : ∃ s, l[j]? = some s := ⟨_, List.getElem?_eq_getElem hlt⟩
      obtain ⟨ad, rfl, hadb, c0, c1, c2⟩ := (HG.out.below hbel).at_ hs
      have hi1 : (j : Int) < (l.length : Int) := by omega
      have HT : Hid (fB true tsn (l.take (j + 1)) = fB true tsn (l.take j) ++ fsB true s) := Lib.hid (by rw [take_some hs, fB_snoc])
      have hst := s.st.toNat_lt
      skip
      have hm1 : (s.st.toNat : Int) % 4294967296 = (s.st.toNat : Int) := by omega
      have hm3 : ((s.st.toNat : Int) * 65536) % 4294967296 = (s.st.toNat : Int) * 65536 := by omega
      skip
      have KS : Hid (∀ W, Below w.heap.size wr W → W.cell? (ad.add (j * 3)) = some (hv s.st) ∧ W.cell? ⟨(ad.add (j * 3)).block, (ad.add (j * 3)).off + 1, none⟩ = some (.bool s.un) ∧ W.cell? ⟨(ad.add (j * 3)).block, (ad.add (j * 3)).off + 2, none⟩ = some (uv s.sq)) := Lib.hid (fun W hW => ⟨(hW.cell (p := ad.add (j * 3)) (by rw [blk_add]; exact hadb)).trans c0, (hW.cell (p := ⟨(ad.add (j * 3)).block, (ad.add (j * 3)).off + 1, none⟩) (by show (ad.add (j * 3)).block < _; rw [blk_add]; exact hadb)).trans c1, (hW.cell (p := ⟨(ad.add (j * 3)).block, (ad.add (j * 3)).off + 2, none⟩) (by show (ad.add (j * 3)).block < _; rw [blk_add]; exact hadb)).trans c2⟩)
      have KC : Hid (∀ W, Below wr.heap.size wr W → W.cell? ⟨g7, 2, none⟩ = some (.slice Al (4 + j * 8) cl)) := Lib.hid (fun W hW => (wh4 (hw.below hW hw.lt)).2.2.1)
      obtain ⟨st, un, sq⟩ := s
      simp only at *
      clear hs c0 c1 c2
      cases un with
      | true =>
        have hm5 : ((st.toNat : Int) * 65536 + 1) % 4294967296 = (st.toNat : Int) * 65536 + 1 := by omega
        have HE : Hid (Value.int .u32 ((st.toNat : Int) * 65536 + 1) = uv (cntW st.toNat 1)) := Lib.hid (by have h := cntW_val st.toNat 1 hst (by omega); simpa using h)
        have HF : Hid (puts 4 [cntW st.toNat 1, sq] = fsB true ⟨st, true, sq⟩) := Lib.hid (wordT ⟨st, true, sq⟩)
        have q0 := (KS.out wr (Below.refl _ _)).1
        have q1 := (KS.out wr (Below.refl _ _)).2.1
        go_upto_region 10 with fail
        rw [HE.out]
        clear q0 q1
        refine wp_region_held_drew (S := (fun W => W.cell? (ad.add (j * 3)) = some (hv st) ∧ W.cell? ⟨(ad.add (j * 3)).block, (ad.add (j * 3)).off + 1, none⟩ = some (.bool true) ∧ W.cell? ⟨(ad.add (j * 3)).block, (ad.add (j * 3)).off + 2, none⟩ = some (uv sq))) (by kernel_rfl) (KS.out _ (below_drew (Below.refl _ _))) (fun hHeld => ?_)
        refine take_at (i := 0) (v := ?_) (some 55) rfl (by kernel_rfl) (by kernel_rfl) (by kernel_rfl) (fun _ _ _ h => h) (by kernel_rfl) (Or.inl ⟨by kernel_rfl, ?_⟩) (by assumption) ?_
        rotate_left
        · (intro w hSw; (try dsimp only at hSw); go_simp <;> with_reducible rfl)
        simp only [Act.put, List.setIfInBounds_toArray, List.set_cons_zero, List.set_cons_succ]
        refine take_at (i := 2) (v := ?_) (some 57) rfl (by kernel_rfl) (by kernel_rfl) (by kernel_rfl) (fun _ _ _ h => h) (by kernel_rfl) (Or.inl ⟨by kernel_rfl, ?_⟩) (by assumption) ?_
        rotate_left
        · (intro w hSw; (try dsimp only at hSw); go_simp <;> with_reducible rfl)
        simp only [Act.put, List.setIfInBounds_toArray, List.set_cons_zero, List.set_cons_succ]
        refine take_at (i := 3) (v := ?_) (some 58) rfl (by kernel_rfl) (by kernel_rfl) (by kernel_rfl) (fun _ _ _ h => h) (by kernel_rfl) (Or.inl ⟨by kernel_rfl, ?_⟩) (by assumption) ?_
        rotate_left
        · (intro w hSw; (try dsimp only at hSw); go_simp <;> with_reducible rfl)
        simp only [Act.put, List.setIfInBounds_toArray, List.set_cons_zero, List.set_cons_succ]
        refine take_at (i := 4) (v := ?_) (some 59) rfl (by kernel_rfl) (by kernel_rfl) (by kernel_rfl) (fun _ _ _ h => h) (by kernel_rfl) (Or.inl ⟨by kernel_rfl, ?_⟩) (by assumption) ?_
        rotate_left
        · (intro w hSw; (try dsimp only at hSw); go_simp <;> with_reducible rfl)
        simp only [Act.put, List.setIfInBounds_toArray, List.set_cons_zero, List.set_cons_succ]
        refine take_at (i := 5) (v := ?_) (some 60) rfl (by kernel_rfl) (by kernel_rfl) (by kernel_rfl) (fun _ _ _ h => h) (by kernel_rfl) (Or.inl ⟨by kernel_rfl, ?_⟩) (by assumption) ?_
        rotate_left
        · (intro w hSw; (try dsimp only at hSw); go_simp <;> with_reducible rfl)
        simp only [Act.put, List.setIfInBounds_toArray, List.set_cons_zero, List.set_cons_succ]
        refine take_at (i := 6) (v := ?_) (some 61) rfl (by kernel_rfl) (by kernel_rfl) (by kernel_rfl) (fun _ _ _ h => h) (by kernel_rfl) (Or.inl ⟨by kernel_rfl, ?_⟩) (by assumption) ?_
        rotate_left
        · (intro w hSw; (try dsimp only at hSw); go_simp <;> with_reducible rfl)
        simp only [Act.put, List.setIfInBounds_toArray, List.set_cons_zero, List.set_cons_succ]
        refine take_at (i := 7) (v := ?_) (some 62) rfl (by kernel_rfl) (by kernel_rfl) (by kernel_rfl) (fun _ _ _ h => h) (by kernel_rfl) (Or.inl ⟨by kernel_rfl, ?_⟩) (by assumption) ?_
        rotate_left
        · (intro w hSw; (try dsimp only at hSw); go_simp <;> with_reducible rfl)
        simp only [Act.put, List.setIfInBounds_toArray, List.set_cons_zero, List.set_cons_succ]
        refine wpAnyH_ready (rs := [1, 8]) (by kernel_rfl) (by simp) ?_
        refine AllReadyH.cons rfl (fun K hK => ?_) (AllReadyH.cons rfl (fun K hK => ?_) AllReadyH.nil)
        · have l0 := KC.out wr.drew (below_drew (Below.refl wr.heap.size wr))
          go_simp
          clear l0
          clear hHeld
          refine hK.out _ _ (KS.out _ ((below_drew (Below.refl wr.heap.size wr)).mono hwr)) (fun hHeld => ?_)
          clear hK K
          try simp only [Act.put, List.setIfInBounds_toArray, List.set_cons_zero, List.set_cons_succ]
          refine wpAnyH_ready (rs := [8]) (by kernel_rfl) (by simp) ?_
          refine AllReadyH.cons rfl (fun K hK => ?_) AllReadyH.nil
          go_simp
          skip
          have bA : Below wr.heap.size wr (wr.alloc (.cells #[uv (cntW st.toNat 1), uv (sq)] 22)).drew := below_drew ((Below.refl _ _).alloc (Nat.le_refl _) _)
          have LA : Lies (wr.alloc (.cells #[uv (cntW st.toNat 1), uv (sq)] 22)).drew (wr.alloc (.cells #[uv (cntW st.toNat 1), uv (sq)] 22)).drew.heap.size (some ⟨wr.heap.size, 0, none⟩) ([cntW st.toNat 1, sq].map uv) := ((lies_new wr [cntW st.toNat 1, sq]).below (below_drew (Below.refl _ _))).more (by show _ ≤ (wr.alloc _).heap.size; simp)
          have oA := own_below' hR.out bA
          generalize (wr.alloc (.cells #[uv (cntW st.toNat 1), uv (sq)] 22)).drew = wA at *
          clear hHeld
          refine hK.out _ _ (KS.out _ (bA.mono hwr)) (fun hHeld => ?_)
          clear hK K
          try simp only [Act.put, List.setIfInBounds_toArray, List.set_cons_zero, List.set_cons_succ]
          refine wpAnyH_ready (rs := [9]) (by kernel_rfl) (by simp) ?_
          refine AllReadyH.cons rfl (fun K hK => ?_) AllReadyH.nil
          have hP : Calls Tryz.prog 77 #[.int .i64 4, .slice (some ⟨wr.heap.size, 0, none⟩) 2 2] wA fun e w' => ∃ A' c', e = .returned (.slice A' 8 c') ∧ w'.ownsRow wA.heap.size 5 1 (.slice A' 8 c') 8 ((puts 4 [cntW st.toNat 1, sq]).map bv) ∧ Below wA.heap.size wA w' := rput_any 4 (.inr (.inr rfl)) _ 2 [cntW st.toNat 1, sq] wA LA (by simp)
          go_simp
          go_at_call 77; (with_reducible refine hP.mono ?_); rintro e wB ⟨A5, c5, rfl, oB2, bB⟩
          go_wp2_with fail
          have oB := own_below' oA bB
          have RB := bA.trans (bB.mono bA.size)
          have sB := RB.size
          clear hP LA
          clear hHeld
          refine hK.out _ _ (KS.out _ (RB.mono hwr)) (fun hHeld => ?_)
          clear hK K
          try simp only [Act.put, List.setIfInBounds_toArray, List.set_cons_zero, List.set_cons_succ]
          refine wpAnyH_ready (rs := [10]) (by kernel_rfl) (by simp) ?_
          refine AllReadyH.cons rfl (fun K hK => ?_) AllReadyH.nil
          refine wp_append_lies _ (.tmp 56) (.tmp 64) 41 rfl w.heap.size 5 _ 1 Tryz.underlying41 u8info rfl (.slice Al (4 + j * 8) cl) (4 + j * 8) _ rfl oB wB.heap.size A5 8 c5 ((puts 4 [cntW st.toNat 1, sq]).map bv) rfl (by simp [puts_len]) (Lies.own oB2) (by intro u hu; obtain ⟨_, _, rfl⟩ := List.mem_map.1 hu; rfl) (by omega) (by unfold maxLen; omega) (by omega) ?_
          intro A6 c6 wC oC gC _
          have x6 : Whole wC g7 44 _ := (hw.below RB hw.lt).grown gC (fun e => whole_row_ne13 (hw.below RB hw.lt) (by decide) oB e.symm)
          have y6 : Whole wC w.heap.size 44 #[.int .u8 0, .int .u8 0, .slice none 0 0, .slice none 0 0] := (hy.below RB hy.lt).grown gC (fun e => whole_row_ne13 (hy.below RB hy.lt) (by decide) oB e.symm)
          have c6b : Below w.heap.size wr wC := (RB.mono hwr).grown gC (by omega) (fun r e => (oB.lt r e).1)
          have OC : Hid (wC.ownsRow w.heap.size 5 1 (.slice A6 (4 + (j + 1) * 8) c6) (4 + (j + 1) * 8) ((fB true tsn (l.take (j + 1))).map bv)) := by
            unfold Hid
            rw [HT.out, ← HF.out, List.map_append, show 4 + (j + 1) * 8 = 4 + j * 8 + 8 by omega]
            exact oC
          have e6 := (wh4 x6).2.2.1
          have f6 := x6.frozen 2
          clear oC oB oB2 gC oA
          clear hHeld
          refine hK.out _ _ (KS.out _ c6b) (fun hHeld => ?_)
          clear hK K
          try simp only [Act.put, List.setIfInBounds_toArray, List.set_cons_zero, List.set_cons_succ]
          refine take_at (i := 11) (v := ?_) (some 66) rfl (by kernel_rfl) (by kernel_rfl) (by kernel_rfl) (fun _ _ _ h => h) (by kernel_rfl) (Or.inl ⟨by kernel_rfl, ?_⟩) (by assumption) ?_
          rotate_left
          · (intro w hSw; (try dsimp only at hSw); go_simp <;> with_reducible rfl)
          simp only [Act.put, List.setIfInBounds_toArray, List.set_cons_zero, List.set_cons_succ]
          refine wpAnyH_ready (rs := [12]) (by kernel_rfl) (by simp) ?_
          refine AllReadyH.cons rfl (fun K hK => ?_) AllReadyH.nil
          go_simp
          have x7 := x6.set_ 2 (.slice A6 (4 + j * 8 + 8) c6)
          have y7 := y6.far (p := ⟨g7, 2, none⟩) (by show w.heap.size ≠ g7; omega) (.slice A6 (4 + j * 8 + 8) c6)
          have b6 := hbel.trans c6b
          have b7 := b6.setCell (p := ⟨g7, 2, none⟩) (by show w.heap.size ≤ g7; omega) (.slice A6 (4 + j * 8 + 8) c6)
          have o7 : Hid (World.ownsRow _ w.heap.size 5 1 _ _ _) := Lib.hid (own_set13 (i := 2) (u := .slice A6 (4 + j * 8 + 8) c6) OC.out x6 (by decide))
          clear hHeld
          refine hK.out _ _ (KS.out _ (c6b.setCell (p := ⟨g7, 2, none⟩) (by show w.heap.size ≤ g7; omega) _)) (fun hHeld => ?_)
          clear hK K
          try simp only [Act.put, List.setIfInBounds_toArray, List.set_cons_zero, List.set_cons_succ]
          refine wpAnyH_done (by kernel_rfl) ?_ _
          go_wp2_with fail
          go_roundw
          case rel => exact ⟨j + 1, A6, c6, by omega, by go_num, by rw [show 4 + (j + 1) * 8 = 4 + j * 8 + 8 by omega]; exact x7, o7, y7, b7⟩
          case measure => simp [intOf]; omega
        · go_simp
          skip
          have bA : Below wr.heap.size wr (wr.alloc (.cells #[uv (cntW st.toNat 1), uv (sq)] 22)).drew := below_drew ((Below.refl _ _).alloc (Nat.le_refl _) _)
          have LA : Lies (wr.alloc (.cells #[uv (cntW st.toNat 1), uv (sq)] 22)).drew (wr.alloc (.cells #[uv (cntW st.toNat 1), uv (sq)] 22)).drew.heap.size (some ⟨wr.heap.size, 0, none⟩) ([cntW st.toNat 1, sq].map uv) := ((lies_new wr [cntW st.toNat 1, sq]).below (below_drew (Below.refl _ _))).more (by show _ ≤ (wr.alloc _).heap.size; simp)
          have oA := own_below' hR.out bA
          generalize (wr.alloc (.cells #[uv (cntW st.toNat 1), uv (sq)] 22)).drew = wA at *
          clear hHeld
          refine hK.out _ _ (KS.out _ (bA.mono hwr)) (fun hHeld => ?_)
          clear hK K
          try simp only [Act.put, List.setIfInBounds_toArray, List.set_cons_zero, List.set_cons_succ]
          refine wpAnyH_ready (rs := [1, 9]) (by kernel_rfl) (by simp) ?_
          refine AllReadyH.cons rfl (fun K hK => ?_) (AllReadyH.cons rfl (fun K hK => ?_) AllReadyH.nil)
          · have l0 := KC.out wA bA
            go_simp
            clear l0
            clear hHeld
            refine hK.out _ _ (KS.out _ (bA.mono hwr)) (fun hHeld => ?_)
            clear hK K
            try simp only [Act.put, List.setIfInBounds_toArray, List.set_cons_zero, List.set_cons_succ]
            refine wpAnyH_ready (rs := [9]) (by kernel_rfl) (by simp) ?_
            refine AllReadyH.cons rfl (fun K hK => ?_) AllReadyH.nil
            have hP : Calls Tryz.prog 77 #[.int .i64 4, .slice (some ⟨wr.heap.size, 0, none⟩) 2 2] wA fun e w' => ∃ A' c', e = .returned (.slice A' 8 c') ∧ w'.ownsRow wA.heap.size 5 1 (.slice A' 8 c') 8 ((puts 4 [cntW st.toNat 1, sq]).map bv) ∧ Below wA.heap.size wA w' := rput_any 4 (.inr (.inr rfl)) _ 2 [cntW st.toNat 1, sq] wA LA (by simp)
            go_simp
            go_at_call 77; (with_reducible refine hP.mono ?_); rintro e wB ⟨A5, c5, rfl, oB2, bB⟩
            go_wp2_with fail
            have oB := own_below' oA bB
            have RB := bA.trans (bB.mono bA.size)
            have sB := RB.size
            clear hP LA
            clear hHeld
            refine hK.out _ _ (KS.out _ (RB.mono hwr)) (fun hHeld => ?_)
            clear hK K
            try simp only [Act.put, List.setIfInBounds_toArray, List.set_cons_zero, List.set_cons_succ]
            refine wpAnyH_ready (rs := [10]) (by kernel_rfl) (by simp) ?_
            refine AllReadyH.cons rfl (fun K hK => ?_) AllReadyH.nil
            refine wp_append_lies _ (.tmp 56) (.tmp 64) 41 rfl w.heap.size 5 _ 1 Tryz.underlying41 u8info rfl (.slice Al (4 + j * 8) cl) (4 + j * 8) _ rfl oB wB.heap.size A5 8 c5 ((puts 4 [cntW st.toNat 1, sq]).map bv) rfl (by simp [puts_len]) (Lies.own oB2) (by intro u hu; obtain ⟨_, _, rfl⟩ := List.mem_map.1 hu; rfl) (by omega) (by unfold maxLen; omega) (by omega) ?_
            intro A6 c6 wC oC gC _
            have x6 : Whole wC g7 44 _ := (hw.below RB hw.lt).grown gC (fun e => whole_row_ne13 (hw.below RB hw.lt) (by decide) oB e.symm)
            have y6 : Whole wC w.heap.size 44 #[.int .u8 0, .int .u8 0, .slice none 0 0, .slice none 0 0] := (hy.below RB hy.lt).grown gC (fun e => whole_row_ne13 (hy.below RB hy.lt) (by decide) oB e.symm)
            have c6b : Below w.heap.size wr wC := (RB.mono hwr).grown gC (by omega) (fun r e => (oB.lt r e).1)
            have OC : Hid (wC.ownsRow w.heap.size 5 1 (.slice A6 (4 + (j + 1) * 8) c6) (4 + (j + 1) * 8) ((fB true tsn (l.take (j + 1))).map bv)) := by
              unfold Hid
              rw [HT.out, ← HF.out, List.map_append, show 4 + (j + 1) * 8 = 4 + j * 8 + 8 by omega]
              exact oC
            have e6 := (wh4 x6).2.2.1
            have f6 := x6.frozen 2
            clear oC oB oB2 gC oA
            clear hHeld
            refine hK.out _ _ (KS.out _ c6b) (fun hHeld => ?_)
            clear hK K
            try simp only [Act.put, List.setIfInBounds_toArray, List.set_cons_zero, List.set_cons_succ]
            refine take_at (i := 11) (v := ?_) (some 66) rfl (by kernel_rfl) (by kernel_rfl) (by kernel_rfl) (fun _ _ _ h => h) (by kernel_rfl) (Or.inl ⟨by kernel_rfl, ?_⟩) (by assumption) ?_
            rotate_left
            · (intro w hSw; (try dsimp only at hSw); go_simp <;> with_reducible rfl)
            simp only [Act.put, List.setIfInBounds_toArray, List.set_cons_zero, List.set_cons_succ]
            refine wpAnyH_ready (rs := [12]) (by kernel_rfl) (by simp) ?_
            refine AllReadyH.cons rfl (fun K hK => ?_) AllReadyH.nil
            go_simp
            have x7 := x6.set_ 2 (.slice A6 (4 + j * 8 + 8) c6)
            have y7 := y6.far (p := ⟨g7, 2, none⟩) (by show w.heap.size ≠ g7; omega) (.slice A6 (4 + j * 8 + 8) c6)
            have b6 := hbel.trans c6b
            have b7 := b6.setCell (p := ⟨g7, 2, none⟩) (by show w.heap.size ≤ g7; omega) (.slice A6 (4 + j * 8 + 8) c6)
            have o7 : Hid (World.ownsRow _ w.heap.size 5 1 _ _ _) := Lib.hid (own_set13 (i := 2) (u := .slice A6 (4 + j * 8 + 8) c6) OC.out x6 (by decide))
            clear hHeld
            refine hK.out _ _ (KS.out _ (c6b.setCell (p := ⟨g7, 2, none⟩) (by show w.heap.size ≤ g7; omega) _)) (fun hHeld => ?_)
            clear hK K
            try simp only [Act.put, List.setIfInBounds_toArray, List.set_cons_zero, List.set_cons_succ]
            refine wpAnyH_done (by kernel_rfl) ?_ _
            go_wp2_with fail
            go_roundw
            case rel => exact ⟨j + 1, A6, c6, by omega, by go_num, by rw [show 4 + (j + 1) * 8 = 4 + j * 8 + 8 by omega]; exact x7, o7, y7, b7⟩
            case measure => simp [intOf]; omega
          · have hP : Calls Tryz.prog 77 #[.int .i64 4, .slice (some ⟨wr.heap.size, 0, none⟩) 2 2] wA fun e w' => ∃ A' c', e = .returned (.slice A' 8 c') ∧ w'.ownsRow wA.heap.size 5 1 (.slice A' 8 c') 8 ((puts 4 [cntW st.toNat 1, sq]).map bv) ∧ Below wA.heap.size wA w' := rput_any 4 (.inr (.inr rfl)) _ 2 [cntW st.toNat 1, sq] wA LA (by simp)
            go_simp
            go_at_call 77; (with_reducible refine hP.mono ?_); rintro e wB ⟨A5, c5, rfl, oB2, bB⟩
            go_wp2_with fail
            have oB := own_below' oA bB
            have RB := bA.trans (bB.mono bA.size)
            have sB := RB.size
            clear hP LA
            clear hHeld
            refine hK.out _ _ (KS.out _ (RB.mono hwr)) (fun hHeld => ?_)
            clear hK K
            try simp only [Act.put, List.setIfInBounds_toArray, List.set_cons_zero, List.set_cons_succ]
            refine wpAnyH_ready (rs := [1]) (by kernel_rfl) (by simp) ?_
            refine AllReadyH.cons rfl (fun K hK => ?_) AllReadyH.nil
            have l0 := KC.out wB RB
            go_simp
            clear l0
            clear hHeld
            refine hK.out _ _ (KS.out _ (RB.mono hwr)) (fun hHeld => ?_)
            clear hK K
            try simp only [Act.put, List.setIfInBounds_toArray, List.set_cons_zero, List.set_cons_succ]
            refine wpAnyH_ready (rs := [10]) (by kernel_rfl) (by simp) ?_
            refine AllReadyH.cons rfl (fun K hK => ?_) AllReadyH.nil
            refine wp_append_lies _ (.tmp 56) (.tmp 64) 41 rfl w.heap.size 5 _ 1 Tryz.underlying41 u8info rfl (.slice Al (4 + j * 8) cl) (4 + j * 8) _ rfl oB wB.heap.size A5 8 c5 ((puts 4 [cntW st.toNat 1, sq]).map bv) rfl (by simp [puts_len]) (Lies.own oB2) (by intro u hu; obtain ⟨_, _, rfl⟩ := List.mem_map.1 hu; rfl) (by omega) (by unfold maxLen; omega) (by omega) ?_
            intro A6 c6 wC oC gC _
            have x6 : Whole wC g7 44 _ := (hw.below RB hw.lt).grown gC (fun e => whole_row_ne13 (hw.below RB hw.lt) (by decide) oB e.symm)
            have y6 : Whole wC w.heap.size 44 #[.int .u8 0, .int .u8 0, .slice none 0 0, .slice none 0 0] := (hy.below RB hy.lt).grown gC (fun e => whole_row_ne13 (hy.below RB hy.lt) (by decide) oB e.symm)
            have c6b : Below w.heap.size wr wC := (RB.mono hwr).grown gC (by omega) (fun r e => (oB.lt r e).1)
            have OC : Hid (wC.ownsRow w.heap.size 5 1 (.slice A6 (4 + (j + 1) * 8) c6) (4 + (j + 1) * 8) ((fB true tsn (l.take (j + 1))).map bv)) := by
              unfold Hid
              rw [HT.out, ← HF.out, List.map_append, show 4 + (j + 1) * 8 = 4 + j * 8 + 8 by omega]
              exact oC
            have e6 := (wh4 x6).2.2.1
            have f6 := x6.frozen 2
            clear oC oB oB2 gC oA
            clear hHeld
            refine hK.out _ _ (KS.out _ c6b) (fun hHeld => ?_)
            clear hK K
            try simp only [Act.put, List.setIfInBounds_toArray, List.set_cons_zero, List.set_cons_succ]
            refine take_at (i := 11) (v := ?_) (some 66) rfl (by kernel_rfl) (by kernel_rfl) (by kernel_rfl) (fun _ _ _ h => h) (by kernel_rfl) (Or.inl ⟨by kernel_rfl, ?_⟩) (by assumption) ?_
            rotate_left
            · (intro w hSw; (try dsimp only at hSw); go_simp <;> with_reducible rfl)
            simp only [Act.put, List.setIfInBounds_toArray, List.set_cons_zero, List.set_cons_succ]
            refine wpAnyH_ready (rs := [12]) (by kernel_rfl) (by simp) ?_
            refine AllReadyH.cons rfl (fun K hK => ?_) AllReadyH.nil
            go_simp
            have x7 := x6.set_ 2 (.slice A6 (4 + j * 8 + 8) c6)
            have y7 := y6.far (p := ⟨g7, 2, none⟩) (by show w.heap.size ≠ g7; omega) (.slice A6 (4 + j * 8 + 8) c6)
            have b6 := hbel.trans c6b
            have b7 := b6.setCell (p := ⟨g7, 2, none⟩) (by show w.heap.size ≤ g7; omega) (.slice A6 (4 + j * 8 + 8) c6)
            have o7 : Hid (World.ownsRow _ w.heap.size 5 1 _ _ _) := Lib.hid (own_set13 (i := 2) (u := .slice A6 (4 + j * 8 + 8) c6) OC.out x6 (by decide))
            clear hHeld
            refine hK.out _ _ (KS.out _ (c6b.setCell (p := ⟨g7, 2, none⟩) (by show w.heap.size ≤ g7; omega) _)) (fun hHeld => ?_)
            clear hK K
            try simp only [Act.put, List.setIfInBounds_toArray, List.set_cons_zero, List.set_cons_succ]
            refine wpAnyH_done (by kernel_rfl) ?_ _
            go_wp2_with fail
            go_roundw
            case rel => exact ⟨j + 1, A6, c6, by omega, by go_num, by rw [show 4 + (j + 1) * 8 = 4 + j * 8 + 8 by omega]; exact x7, o7, y7, b7⟩
            case measure => simp [intOf]; omega
      | false =>
        have hm5 : ((st.toNat : Int) * 65536) % 4294967296 = (st.toNat : Int) * 65536 := by omega
        have HE : Hid (Value.int .u32 ((st.toNat : Int) * 65536) = uv (cntW st.toNat 0)) := Lib.hid (by have h := cntW_val st.toNat 0 hst (by omega); simpa using h)
        have HF : Hid (puts 4 [cntW st.toNat 0, sq] = fsB true ⟨st, false, sq⟩) := Lib.hid (wordT ⟨st, false, sq⟩)
        have q0 := (KS.out wr (Below.refl _ _)).1
        have q1 := (KS.out wr (Below.refl _ _)).2.1
        go_upto_region 10 with fail
        rw [HE.out]
        clear q0 q1
        refine wp_region_held_drew (S := (fun W => W.cell? (ad.add (j * 3)) = some (hv st) ∧ W.cell? ⟨(ad.add (j * 3)).block, (ad.add (j * 3)).off + 1, none⟩ = some (.bool false) ∧ W.cell? ⟨(ad.add (j * 3)).block, (ad.add (j * 3)).off + 2, none⟩ = some (uv sq))) (by kernel_rfl) (KS.out _ (below_drew (Below.refl _ _))) (fun hHeld => ?_)
        refine take_at (i := 0) (v := ?_) (some 55) rfl (by kernel_rfl) (by kernel_rfl) (by kernel_rfl) (fun _ _ _ h => h) (by kernel_rfl) (Or.inl ⟨by kernel_rfl, ?_⟩) (by assumption) ?_
        rotate_left
        · (intro w hSw; (try dsimp only at hSw); go_simp <;> with_reducible rfl)
        simp only [Act.put, List.setIfInBounds_toArray, List.set_cons_zero, List.set_cons_succ]
        refine take_at (i := 2) (v := ?_) (some 57) rfl (by kernel_rfl) (by kernel_rfl) (by kernel_rfl) (fun _ _ _ h => h) (by kernel_rfl) (Or.inl ⟨by kernel_rfl, ?_⟩) (by assumption) ?_
        rotate_left
        · (intro w hSw; (try dsimp only at hSw); go_simp <;> with_reducible rfl)
        simp only [Act.put, List.setIfInBounds_toArray, List.set_cons_zero, List.set_cons_succ]
        refine take_at (i := 3) (v := ?_) (some 58) rfl (by kernel_rfl) (by kernel_rfl) (by kernel_rfl) (fun _ _ _ h => h) (by kernel_rfl) (Or.inl ⟨by kernel_rfl, ?_⟩) (by assumption) ?_
        rotate_left
        · (intro w hSw; (try dsimp only at hSw); go_simp <;> with_reducible rfl)
        simp only [Act.put, List.setIfInBounds_toArray, List.set_cons_zero, List.set_cons_succ]
        refine take_at (i := 4) (v := ?_) (some 59) rfl (by kernel_rfl) (by kernel_rfl) (by kernel_rfl) (fun _ _ _ h => h) (by kernel_rfl) (Or.inl ⟨by kernel_rfl, ?_⟩) (by assumption) ?_
        rotate_left
        · (intro w hSw; (try dsimp only at hSw); go_simp <;> with_reducible rfl)
        simp only [Act.put, List.setIfInBounds_toArray, List.set_cons_zero, List.set_cons_succ]
        refine take_at (i := 5) (v := ?_) (some 60) rfl (by kernel_rfl) (by kernel_rfl) (by kernel_rfl) (fun _ _ _ h => h) (by kernel_rfl) (Or.inl ⟨by kernel_rfl, ?_⟩) (by assumption) ?_
        rotate_left
        · (intro w hSw; (try dsimp only at hSw); go_simp <;> with_reducible rfl)
        simp only [Act.put, List.setIfInBounds_toArray, List.set_cons_zero, List.set_cons_succ]
        refine take_at (i := 6) (v := ?_) (some 61) rfl (by kernel_rfl) (by kernel_rfl) (by kernel_rfl) (fun _ _ _ h => h) (by kernel_rfl) (Or.inl ⟨by kernel_rfl, ?_⟩) (by assumption) ?_
        rotate_left
        · (intro w hSw; (try dsimp only at hSw); go_simp <;> with_reducible rfl)
        simp only [Act.put, List.setIfInBounds_toArray, List.set_cons_zero, List.set_cons_succ]
        refine take_at (i := 7) (v := ?_) (some 62) rfl (by kernel_rfl) (by kernel_rfl) (by kernel_rfl) (fun _ _ _ h => h) (by kernel_rfl) (Or.inl ⟨by kernel_rfl, ?_⟩) (by assumption) ?_
        rotate_left
        · (intro w hSw; (try dsimp only at hSw); go_simp <;> with_reducible rfl)
        simp only [Act.put, List.setIfInBounds_toArray, List.set_cons_zero, List.set_cons_succ]
        refine wpAnyH_ready (rs := [1, 8]) (by kernel_rfl) (by simp) ?_
        refine AllReadyH.cons rfl (fun K hK => ?_) (AllReadyH.cons rfl (fun K hK => ?_) AllReadyH.nil)
        · have l0 := KC.out wr.drew (below_drew (Below.refl wr.heap.size wr))
          go_simp
          clear l0
          clear hHeld
          refine hK.out _ _ (KS.out _ ((below_drew (Below.refl wr.heap.size wr)).mono hwr)) (fun hHeld => ?_)
          clear hK K
          try simp only [Act.put, List.setIfInBounds_toArray, List.set_cons_zero, List.set_cons_succ]
          refine wpAnyH_ready (rs := [8]) (by kernel_rfl) (by simp) ?_
          refine AllReadyH.cons rfl (fun K hK => ?_) AllReadyH.nil
          go_simp
          skip
          have bA : Below wr.heap.size wr (wr.alloc (.cells #[uv (cntW st.toNat 0), uv (sq)] 22)).drew := below_drew ((Below.refl _ _).alloc (Nat.le_refl _) _)
          have LA : Lies (wr.alloc (.cells #[uv (cntW st.toNat 0), uv (sq)] 22)).drew (wr.alloc (.cells #[uv (cntW st.toNat 0), uv (sq)] 22)).drew.heap.size (some ⟨wr.heap.size, 0, none⟩) ([cntW st.toNat 0, sq].map uv) := ((lies_new wr [cntW st.toNat 0, sq]).below (below_drew (Below.refl _ _))).more (by show _ ≤ (wr.alloc _).heap.size; simp)
          have oA := own_below' hR.out bA
          generalize (wr.alloc (.cells #[uv (cntW st.toNat 0), uv (sq)] 22)).drew = wA at *
          clear hHeld
          refine hK.out _ _ (KS.out _ (bA.mono hwr)) (fun hHeld => ?_)
          clear hK K
          try simp only [Act.put, List.setIfInBounds_toArray, List.set_cons_zero, List.set_cons_succ]
          refine wpAnyH_ready (rs := [9]) (by kernel_rfl) (by simp) ?_
          refine AllReadyH.cons rfl (fun K hK => ?_) AllReadyH.nil
          have hP : Calls Tryz.prog 77 #[.int .i64 4, .slice (some ⟨wr.heap.size, 0, none⟩) 2 2] wA fun e w' => ∃ A' c', e = .returned (.slice A' 8 c') ∧ w'.ownsRow wA.heap.size 5 1 (.slice A' 8 c') 8 ((puts 4 [cntW st.toNat 0, sq]).map bv) ∧ Below wA.heap.size wA w' := rput_any 4 (.inr (.inr rfl)) _ 2 [cntW st.toNat 0, sq] wA LA (by simp)
          go_simp
          go_at_call 77; (with_reducible refine hP.mono ?_); rintro e wB ⟨A5, c5, rfl, oB2, bB⟩
          go_wp2_with fail
          have oB := own_below' oA bB
          have RB := bA.trans (bB.mono bA.size)
          have sB := RB.size
          clear hP LA
          clear hHeld
          refine hK.out _ _ (KS.out _ (RB.mono hwr)) (fun hHeld => ?_)
          clear hK K
          try simp only [Act.put, List.setIfInBounds_toArray, List.set_cons_zero, List.set_cons_succ]
          refine wpAnyH_ready (rs := [10]) (by kernel_rfl) (by simp) ?_
          refine AllReadyH.cons rfl (fun K hK => ?_) AllReadyH.nil
          refine wp_append_lies _ (.tmp 56) (.tmp 64) 41 rfl w.heap.size 5 _ 1 Tryz.underlying41 u8info rfl (.slice Al (4 + j * 8) cl) (4 + j * 8) _ rfl oB wB.heap.size A5 8 c5 ((puts 4 [cntW st.toNat 0, sq]).map bv) rfl (by simp [puts_len]) (Lies.own oB2) (by intro u hu; obtain ⟨_, _, rfl⟩ := List.mem_map.1 hu; rfl) (by omega) (by unfold maxLen; omega) (by omega) ?_
          intro A6 c6 wC oC gC _
          have x6 : Whole wC g7 44 _ := (hw.below RB hw.lt).grown gC (fun e => whole_row_ne13 (hw.below RB hw.lt) (by decide) oB e.symm)
          have y6 : Whole wC w.heap.size 44 #[.int .u8 0, .int .u8 0, .slice none 0 0, .slice none 0 0] := (hy.below RB hy.lt).grown gC (fun e => whole_row_ne13 (hy.below RB hy.lt) (by decide) oB e.symm)
          have c6b : Below w.heap.size wr wC := (RB.mono hwr).grown gC (by omega) (fun r e => (oB.lt r e).1)
          have OC : Hid (wC.ownsRow w.heap.size 5 1 (.slice A6 (4 + (j + 1) * 8) c6) (4 + (j + 1) * 8) ((fB true tsn (l.take (j + 1))).map bv)) := by
            unfold Hid
            rw [HT.out, ← HF.out, List.map_append, show 4 + (j + 1) * 8 = 4 + j * 8 + 8 by omega]
            exact oC
          have e6 := (wh4 x6).2.2.1
          have f6 := x6.frozen 2
          clear oC oB oB2 gC oA
          clear hHeld
          refine hK.out _ _ (KS.out _ c6b) (fun hHeld => ?_)
          clear hK K
          try simp only [Act.put, List.setIfInBounds_toArray, List.set_cons_zero, List.set_cons_succ]
          refine take_at (i := 11) (v := ?_) (some 66) rfl (by kernel_rfl) (by kernel_rfl) (by kernel_rfl) (fun _ _ _ h => h) (by kernel_rfl) (Or.inl ⟨by kernel_rfl, ?_⟩) (by assumption) ?_
          rotate_left
          · (intro w hSw; (try dsimp only at hSw); go_simp <;> with_reducible rfl)
          simp only [Act.put, List.setIfInBounds_toArray, List.set_cons_zero, List.set_cons_succ]
          refine wpAnyH_ready (rs := [12]) (by kernel_rfl) (by simp) ?_
          refine AllReadyH.cons rfl (fun K hK => ?_) AllReadyH.nil
          go_simp
          have x7 := x6.set_ 2 (.slice A6 (4 + j * 8 + 8) c6)
          have y7 := y6.far (p := ⟨g7, 2, none⟩) (by show w.heap.size ≠ g7; omega) (.slice A6 (4 + j * 8 + 8) c6)
          have b6 := hbel.trans c6b
          have b7 := b6.setCell (p := ⟨g7, 2, none⟩) (by show w.heap.size ≤ g7; omega) (.slice A6 (4 + j * 8 + 8) c6)
          have o7 : Hid (World.ownsRow _ w.heap.size 5 1 _ _ _) := Lib.hid (own_set13 (i := 2) (u := .slice A6 (4 + j * 8 + 8) c6) OC.out x6 (by decide))
          clear hHeld
          refine hK.out _ _ (KS.out _ (c6b.setCell (p := ⟨g7, 2, none⟩) (by show w.heap.size ≤ g7; omega) _)) (fun hHeld => ?_)
          clear hK K
          try simp only [Act.put, List.setIfInBounds_toArray, List.set_cons_zero, List.set_cons_succ]
          refine wpAnyH_done (by kernel_rfl) ?_ _
          go_wp2_with fail
          go_roundw
          case rel => exact ⟨j + 1, A6, c6, by omega, by go_num, by rw [show 4 + (j + 1) * 8 = 4 + j * 8 + 8 by omega]; exact x7, o7, y7, b7⟩
          case measure => simp [intOf]; omega
        · go_simp
          skip
          have bA : Below wr.heap.size wr (wr.alloc (.cells #[uv (cntW st.toNat 0), uv (sq)] 22)).drew := below_drew ((Below.refl _ _).alloc (Nat.le_refl _) _)
          have LA : Lies (wr.alloc (.cells #[uv (cntW st.toNat 0), uv (sq)] 22)).drew (wr.alloc (.cells #[uv (cntW st.toNat 0), uv (sq)] 22)).drew.heap.size (some ⟨wr.heap.size, 0, none⟩) ([cntW st.toNat 0, sq].map uv) := ((lies_new wr [cntW st.toNat 0, sq]).below (below_drew (Below.refl _ _))).more (by show _ ≤ (wr.alloc _).heap.size; simp)
          have oA := own_below' hR.out bA
          generalize (wr.alloc (.cells #[uv (cntW st.toNat 0), uv (sq)] 22)).drew = wA at *
          clear hHeld
          refine hK.out _ _ (KS.out _ (bA.mono hwr)) (fun hHeld => ?_)
          clear hK K
          try simp only [Act.put, List.setIfInBounds_toArray, List.set_cons_zero, List.set_cons_succ]
          refine wpAnyH_ready (rs := [1, 9]) (by kernel_rfl) (by simp) ?_
          refine AllReadyH.cons rfl (fun K hK => ?_) (AllReadyH.cons rfl (fun K hK => ?_) AllReadyH.nil)
          · have l0 := KC.out wA bA
            go_simp
            clear l0
            clear hHeld
            refine hK.out _ _ (KS.out _ (bA.mono hwr)) (fun hHeld => ?_)
            clear hK K
            try simp only [Act.put, List.setIfInBounds_toArray, List.set_cons_zero, List.set_cons_succ]
            refine wpAnyH_ready (rs := [9]) (by kernel_rfl) (by simp) ?_
            refine AllReadyH.cons rfl (fun K hK => ?_) AllReadyH.nil
            have hP : Calls Tryz.prog 77 #[.int .i64 4, .slice (some ⟨wr.heap.size, 0, none⟩) 2 2] wA fun e w' => ∃ A' c', e = .returned (.slice A' 8 c') ∧ w'.ownsRow wA.heap.size 5 1 (.slice A' 8 c') 8 ((puts 4 [cntW st.toNat 0, sq]).map bv) ∧ Below wA.heap.size wA w' := rput_any 4 (.inr (.inr rfl)) _ 2 [cntW st.toNat 0, sq] wA LA (by simp)
            go_simp
            go_at_call 77; (with_reducible refine hP.mono ?_); rintro e wB ⟨A5, c5, rfl, oB2, bB⟩
            go_wp2_with fail
            have oB := own_below' oA bB
            have RB := bA.trans (bB.mono bA.size)
            have sB := RB.size
            clear hP LA
            clear hHeld
            refine hK.out _ _ (KS.out _ (RB.mono hwr)) (fun hHeld => ?_)
            clear hK K
            try simp only [Act.put, List.setIfInBounds_toArray, List.set_cons_zero, List.set_cons_succ]
            refine wpAnyH_ready (rs := [10]) (by kernel_rfl) (by simp) ?_
            refine AllReadyH.cons rfl (fun K hK => ?_) AllReadyH.nil
            refine wp_append_lies _ (.tmp 56) (.tmp 64) 41 rfl w.heap.size 5 _ 1 Tryz.underlying41 u8info rfl (.slice Al (4 + j * 8) cl) (4 + j * 8) _ rfl oB wB.heap.size A5 8 c5 ((puts 4 [cntW st.toNat 0, sq]).map bv) rfl (by simp [puts_len]) (Lies.own oB2) (by intro u hu; obtain ⟨_, _, rfl⟩ := List.mem_map.1 hu; rfl) (by omega) (by unfold maxLen; omega) (by omega) ?_
            intro A6 c6 wC oC gC _
            have x6 : Whole wC g7 44 _ := (hw.below RB hw.lt).grown gC (fun e => whole_row_ne13 (hw.below RB hw.lt) (by decide) oB e.symm)
            have y6 : Whole wC w.heap.size 44 #[.int .u8 0, .int .u8 0, .slice none 0 0, .slice none 0 0] := (hy.below RB hy.lt).grown gC (fun e => whole_row_ne13 (hy.below RB hy.lt) (by decide) oB e.symm)
            have c6b : Below w.heap.size wr wC := (RB.mono hwr).grown gC (by omega) (fun r e => (oB.lt r e).1)
            have OC : Hid (wC.ownsRow w.heap.size 5 1 (.slice A6 (4 + (j + 1) * 8) c6) (4 + (j + 1) * 8) ((fB true tsn (l.take (j + 1))).map bv)) := by
              unfold Hid
              rw [HT.out, ← HF.out, List.map_append, show 4 + (j + 1) * 8 = 4 + j * 8 + 8 by omega]
              exact oC
            have e6 := (wh4 x6).2.2.1
            have f6 := x6.frozen 2
            clear oC oB oB2 gC oA
            clear hHeld
            refine hK.out _ _ (KS.out _ c6b) (fun hHeld => ?_)
            clear hK K
            try simp only [Act.put, List.setIfInBounds_toArray, List.set_cons_zero, List.set_cons_succ]
            refine take_at (i := 11) (v := ?_) (some 66) rfl (by kernel_rfl) (by kernel_rfl) (by kernel_rfl) (fun _ _ _ h => h) (by kernel_rfl) (Or.inl ⟨by kernel_rfl, ?_⟩) (by assumption) ?_
            rotate_left
            · (intro w hSw; (try dsimp only at hSw); go_simp <;> with_reducible rfl)
            simp only [Act.put, List.setIfInBounds_toArray, List.set_cons_zero, List.set_cons_succ]
            refine wpAnyH_ready (rs := [12]) (by kernel_rfl) (by simp) ?_
            refine AllReadyH.cons rfl (fun K hK => ?_) AllReadyH.nil
            go_simp
            have x7 := x6.set_ 2 (.slice A6 (4 + j * 8 + 8) c6)
            have y7 := y6.far (p := ⟨g7, 2, none⟩) (by show w.heap.size ≠ g7; omega) (.slice A6 (4 + j * 8 + 8) c6)
            have b6 := hbel.trans c6b
            have b7 := b6.setCell (p := ⟨g7, 2, none⟩) (by show w.heap.size ≤ g7; omega) (.slice A6 (4 + j * 8 + 8) c6)
            have o7 : Hid (World.ownsRow _ w.heap.size 5 1 _ _ _) := Lib.hid (own_set13 (i := 2) (u := .slice A6 (4 + j * 8 + 8) c6) OC.out x6 (by decide))
            clear hHeld
            refine hK.out _ _ (KS.out _ (c6b.setCell (p := ⟨g7, 2, none⟩) (by show w.heap.size ≤ g7; omega) _)) (fun hHeld => ?_)
            clear hK K
            try simp only [Act.put, List.setIfInBounds_toArray, List.set_cons_zero, List.set_cons_succ]
            refine wpAnyH_done (by kernel_rfl) ?_ _
            go_wp2_with fail
            go_roundw
            case rel => exact ⟨j + 1, A6, c6, by omega, by go_num, by rw [show 4 + (j + 1) * 8 = 4 + j * 8 + 8 by omega]; exact x7, o7, y7, b7⟩
            case measure => simp [intOf]; omega
          · have hP : Calls Tryz.prog 77 #[.int .i64 4, .slice (some ⟨wr.heap.size, 0, none⟩) 2 2] wA fun e w' => ∃ A' c', e = .returned (.slice A' 8 c') ∧ w'.ownsRow wA.heap.size 5 1 (.slice A' 8 c') 8 ((puts 4 [cntW st.toNat 0, sq]).map bv) ∧ Below wA.heap.size wA w' := rput_any 4 (.inr (.inr rfl)) _ 2 [cntW st.toNat 0, sq] wA LA (by simp)
            go_simp
            go_at_call 77; (with_reducible refine hP.mono ?_); rintro e wB ⟨A5, c5, rfl, oB2, bB⟩
            go_wp2_with fail
            have oB := own_below' oA bB
            have RB := bA.trans (bB.mono bA.size)
            have sB := RB.size
            clear hP LA
            clear hHeld
            refine hK.out _ _ (KS.out _ (RB.mono hwr)) (fun hHeld => ?_)
            clear hK K
            try simp only [Act.put, List.setIfInBounds_toArray, List.set_cons_zero, List.set_cons_succ]
            refine wpAnyH_ready (rs := [1]) (by kernel_rfl) (by simp) ?_
            refine AllReadyH.cons rfl (fun K hK => ?_) AllReadyH.nil
            have l0 := KC.out wB RB
            go_simp
            clear l0
            clear hHeld
            refine hK.out _ _ (KS.out _ (RB.mono hwr)) (fun hHeld => ?_)
            clear hK K
            try simp only [Act.put, List.setIfInBounds_toArray, List.set_cons_zero, List.set_cons_succ]
            refine wpAnyH_ready (rs := [10]) (by kernel_rfl) (by simp) ?_
            refine AllReadyH.cons rfl (fun K hK => ?_) AllReadyH.nil
            refine wp_append_lies _ (.tmp 56) (.tmp 64) 41 rfl w.heap.size 5 _ 1 Tryz.underlying41 u8info rfl (.slice Al (4 + j * 8) cl) (4 + j * 8) _ rfl oB wB.heap.size A5 8 c5 ((puts 4 [cntW st.toNat 0, sq]).map bv) rfl (by simp [puts_len]) (Lies.own oB2) (by intro u hu; obtain ⟨_, _, rfl⟩ := List.mem_map.1 hu; rfl) (by omega) (by unfold maxLen; omega) (by omega) ?_
            intro A6 c6 wC oC gC _
            have x6 : Whole wC g7 44 _ := (hw.below RB hw.lt).grown gC (fun e => whole_row_ne13 (hw.below RB hw.lt) (by decide) oB e.symm)
            have y6 : Whole wC w.heap.size 44 #[.int .u8 0, .int .u8 0, .slice none 0 0, .slice none 0 0] := (hy.below RB hy.lt).grown gC (fun e => whole_row_ne13 (hy.below RB hy.lt) (by decide) oB e.symm)
            have c6b : Below w.heap.size wr wC := (RB.mono hwr).grown gC (by omega) (fun r e => (oB.lt r e).1)
            have OC : Hid (wC.ownsRow w.heap.size 5 1 (.slice A6 (4 + (j + 1) * 8) c6) (4 + (j + 1) * 8) ((fB true tsn (l.take (j + 1))).map bv)) := by
              unfold Hid
              rw [HT.out, ← HF.out, List.map_append, show 4 + (j + 1) * 8 = 4 + j * 8 + 8 by omega]
              exact oC
            have e6 := (wh4 x6).2.2.1
            have f6 := x6.frozen 2
            clear oC oB oB2 gC oA
            clear hHeld
            refine hK.out _ _ (KS.out _ c6b) (fun hHeld => ?_)
            clear hK K
            try simp only [Act.put, List.setIfInBounds_toArray, List.set_cons_zero, List.set_cons_succ]
            refine take_at (i := 11) (v := ?_) (some 66) rfl (by kernel_rfl) (by kernel_rfl) (by kernel_rfl) (fun _ _ _ h => h) (by kernel_rfl) (Or.inl ⟨by kernel_rfl, ?_⟩) (by assumption) ?_
            rotate_left
            · (intro w hSw; (try dsimp only at hSw); go_simp <;> with_reducible rfl)
            simp only [Act.put, List.setIfInBounds_toArray, List.set_cons_zero, List.set_cons_succ]
            refine wpAnyH_ready (rs := [12]) (by kernel_rfl) (by simp) ?_
            refine AllReadyH.cons rfl (fun K hK => ?_) AllReadyH.nil
            go_simp
            have x7 := x6.set_ 2 (.slice A6 (4 + j * 8 + 8) c6)
            have y7 := y6.far (p := ⟨g7, 2, none⟩) (by show w.heap.size ≠ g7; omega) (.slice A6 (4 + j * 8 + 8) c6)
            have b6 := hbel.trans c6b
            have b7 := b6.setCell (p := ⟨g7, 2, none⟩) (by show w.heap.size ≤ g7; omega) (.slice A6 (4 + j * 8 + 8) c6)
            have o7 : Hid (World.ownsRow _ w.heap.size 5 1 _ _ _) := Lib.hid (own_set13 (i := 2) (u := .slice A6 (4 + j * 8 + 8) c6) OC.out x6 (by decide))
            clear hHeld
            refine hK.out _ _ (KS.out _ (c6b.setCell (p := ⟨g7, 2, none⟩) (by show w.heap.size ≤ g7; omega) _)) (fun hHeld => ?_)
            clear hK K
            try simp only [Act.put, List.setIfInBounds_toArray, List.set_cons_zero, List.set_cons_succ]
            refine wpAnyH_done (by kernel_rfl) ?_ _
            go_wp2_with fail
            go_roundw
            case rel => exact ⟨j + 1, A6, c6, by omega, by go_num, by rw [show 4 + (j + 1) * 8 = 4 + j * 8 + 8 by omega]; exact x7, o7, y7, b7⟩
            case measure => simp [intOf]; omega
    · obtain rfl : j = l.length := by omega
      have hi1 : ¬ (l.length : Int) < (l.length : Int) := by omega
      rw [List.take_length] at hR
      obtain ⟨r0, r1, r2, r3⟩ := wh4 hw
      have fz := hw.frozen 0
      go_upto_region 13 with fail
      have hw' := hw.set_ 0 (.int .u8 194)
      have hy' := hy.far (p := ⟨g7, 0, none⟩) (by show w.heap.size ≠ g7; omega) (.int .u8 194)
      have hR' : Hid (World.ownsRow _ w.heap.size 5 1 _ _ _) := Lib.hid (own_set13 (i := 0) (u := .int .u8 194) hR.out hw (by decide))
      have hbel' := hbel.setCell (p := ⟨g7, 0, none⟩) (by show w.heap.size ≤ g7; omega) (.int .u8 194)
      generalize wr.setCell ⟨g7, 0, none⟩ (.int .u8 194) = wz at *
      clear r0 r1 r2 r3 fz hw hy hR hbel
      have hw := hw'
      have hy := hy'
      have hR := hR'
      have hbel := hbel'
      clear hw' hy' hR' hbel'
      obtain ⟨r0, r1, r2, r3⟩ := wh4 hw
      obtain ⟨t0, t1, t2, t3⟩ := wh4 hy
      have f0 := hy.frozen 0
      have f1 := hy.frozen 1
      have f2 := hy.frozen 2
      have f3 := hy.frozen 3
      go_wp2_with fail
      refine bodyPost_ret (results_row13 rfl _ _ w.heap.size 44 _ _ rfl ((((hy.set_ 0 _).set_ 1 _).set_ 2 _).set_ 3 _) Tryz.underlying44 rfl (by kernel_rfl)) rfl ?_
      refine ⟨(((hbel.setCell (p := ⟨w.heap.size, 0, none⟩) (Nat.le_refl _) _).setCell (p := ⟨w.heap.size, 1, none⟩) (Nat.le_refl _) _).setCell (p := ⟨w.heap.size, 2, none⟩) (Nat.le_refl _) _).setCell (p := ⟨w.heap.size, 3, none⟩) (Nat.le_refl _) _, Al, cl, rfl, ?_⟩
      exact own_set13 (own_set13 (own_set13 (own_set13 hR.out hy (by decide)) (hy.set_ 0 _) (by decide)) ((hy.set_ 0 _).set_ 1 _) (by decide)) (((hy.set_ 0 _).set_ 1 _).set_ 2 _) (by decide)
theorem rmake16_any (inter : Bool) (tsn : UInt32) (l : List Fs) (A : Option Addr) (c : Nat) (w : World) (h : FsL w w.heap.size A c l) (hh : haveB inter l = true) :
    Calls Tryz.prog 27 #[.bool inter, uv tsn, .slice A l.length c] w fun e w' => Below w.heap.size w w' ∧ ∃ A' c', e = .returned (.agg #[bv (tyF inter), .int .u8 0, .slice A' (4 + unitN inter * l.length) c', .slice none 0 0]) ∧
      w'.ownsRow w.heap.size 5 1 (.slice A' (4 + unitN inter * l.length) c') (4 + unitN inter * l.length) ((fB inter tsn l).map bv) := by
  rw [Nat.mul_comm]
  cases inter with
  | false =>
    have h2 : ∀ s ∈ l, onlyB s = false := fun s hs => by
      cases hb : onlyB s with
      | false => rfl
      | true => rw [haveB_no hs hb] at hh; cases hh
    rw [haveB_all h2] at hh
    exact rmake16_false tsn l A c w h (of_decide_eq_true hh) h2
  | true =>
    rw [haveB_true] at hh
    have := of_decide_eq_true hh
    exact rmake16_true tsn l A c w h (by omega)
end Go.Proofs.YtmohbkniekeafaaGreatDoor



namespace Go.Proofs.YtmohbkniekeafaaGreatDoor
open Go.RowKit

set_option linter.unusedSimpArgs false
theorem nrd_split {d : List UInt8} {i : Nat} (h : i + 4 ≤ d.length) : (nrd d i 4).toNat = (nrd d i 2).toNat * 65536 + (nrd d (i + 2) 2).toNat := by
  rw [nrd_toNat, nrd_toNat, nrd_toNat, ← List.drop_drop]
  have h1 : 4 ≤ (d.drop i).length := by rw [List.length_drop]; omega
  generalize d.drop i = b at *
  match b, h1 with
  | a0 :: a1 :: a2 :: a3 :: r, _ =>
    show numStep (numStep (numStep (numStep 0 a0) a1) a2) a3 = numOf [a0, a1] * 65536 + numOf [a2, a3]
    rw [numOf_pair, numOf_pair]
    have h0 := a0.toNat_lt
    have h1 := a1.toNat_lt
    have h2 := a2.toNat_lt
    have h3 := a3.toNat_lt
    unfold numStep
    omega
theorem nrd2_lt (d : List UInt8) (i : Nat) (h : i + 2 ≤ d.length) : (nrd d i 2).toNat < 65536 := by
  rw [nrd_toNat]
  exact numOf2_lt _ (by rw [List.length_take, List.length_drop]; omega)
theorem nrd_in (d : List UInt8) (i j k n : Nat) (h : j + k ≤ n) : nrd ((d.drop i).take n) j k = nrd d (i + j) k := by
  unfold nrd
  rw [List.drop_take, List.take_take, List.drop_drop, Nat.min_eq_left (by omega)]
theorem skN_f (d : List UInt8) (i : Nat) : skN false ((d.drop i).take 4) = ⟨UInt16.ofNat (nrd d i 2).toNat, false, nrd d (i + 2) 2⟩ := by
  unfold skN
  rw [if_neg (by simp), nrd_in _ _ _ _ _ (by omega), nrd_in _ _ _ _ _ (by omega)]
  rfl
theorem skN_t (d : List UInt8) (i : Nat) : skN true ((d.drop i).take 8) = ⟨UInt16.ofNat (nrd d i 2).toNat, nrd d (i + 2) 2 == 1, nrd d (i + 4) 4⟩ := by
  unfold skN
  rw [if_pos rfl, nrd_in _ _ _ _ _ (by omega), nrd_in _ _ _ _ _ (by omega), nrd_in _ _ _ _ _ (by omega)]
  rfl
theorem nums4_at {d : List UInt8} {j : Nat} (h : j < d.length / 4) : (nums 4 d)[j]? = some (nrd d (j * 4) 4) := by
  rw [nums_at h]
  rfl
set_option maxRecDepth 100000 in
set_option maxHeartbeats 16000000 in
theorem rof16_false (d : List UInt8) (hx : isW ⟨192, 0, d, []⟩ = true) (A : Option Addr) (c : Nat) (K : Option Addr) (kc : Nat) (w : World) (h : Chunk w w.heap.size A c K kc ⟨192, 0, d, []⟩) :
    Calls Tryz.prog 33 #[.agg #[.int .u8 192, .int .u8 0, .slice A d.length c, .slice K 0 kc]] w fun e w' => Below w.heap.size w w' ∧ ∃ A' c', e = .returned (.tuple #[uv (nrd d 0 4), .slice A' (fwL false d).length c']) ∧ w'.ownsRow w.heap.size 68 3 (.slice A' (fwL false d).length c') (fwL false d).length (fsFlat (fwL false d)) := by
  obtain ⟨_, _, _, hd1, hd2, hd3⟩ := isW_all hx
  simp only at hd1 hd2 hd3
  have hit : itW ⟨192, 0, d, []⟩ = false := rfl
  rw [hit] at hd3
  have L0 : Lies w w.heap.size A (d.map bv) := h.data
  have b0 : Below w.heap.size w (w.alloc (.cells #[.int .u8 192, .int .u8 0, .slice A d.length c, .slice K 0 kc] 44)) := (Below.refl _ w).alloc (Nat.le_refl _) _
  have x0 := Whole.new w 44 #[.int .u8 192, .int .u8 0, .slice A d.length c, .slice K 0 kc]
  obtain ⟨l, hl⟩ : ∃ l, l = fwL false d := ⟨_, rfl⟩
  have HAT : Hid (∀ j, j < l.length → l[j]? = some (skN false ((d.drop (4 + 4 * j)).take 4))) := Lib.hid (fun j hj => by rw [hl] at hj ⊢; exact fwL_at hj)
  rw [← hl] at hd3 ⊢
  have HD3 : Hid (d.length = 4 + 4 * l.length) := Lib.hid hd3
  obtain ⟨q, hq⟩ : ∃ q, q = 1 + 1 * l.length := ⟨_, rfl⟩
  have hdq : d.length = q * 4 := by have := HD3.out; omega
  have HQ := Lib.hid hq
  have HWS : Hid (∀ j, j < q → (nums 4 d)[j]? = some (nrd d (j * 4) 4)) := Lib.hid (fun j hj => nums4_at (by omega))
  have hN := rnum_len 4 rfl A c d d.length q rfl hdq (by omega) (w.alloc (.cells #[.int .u8 192, .int .u8 0, .slice A d.length c, .slice K 0 kc] 44)) ((L0.below b0).more b0.size)
  have hz : w.heap.size + 1 = (w.alloc (.cells #[.int .u8 192, .int .u8 0, .slice A d.length c, .slice K 0 kc] 44)).heap.size := by simp
  clear hl hx h hit hd3 hdq hq L0
  generalize nums 4 d = ws at *
  go_enter Tryz.func33, Tryz.ntmps33
  go_upto_region 1 with fail
  generalize w.alloc (.cells #[.int .u8 192, .int .u8 0, .slice A d.length c, .slice K 0 kc] 44) = wa at *
  obtain ⟨q0, q1, q2, q3⟩ := wh4 x0
  go_wp2_with fail
  refine hN.mono ?_
  rintro e w1 ⟨A1, c1, rfl, o1, b1⟩
  have x1 := x0.below b1 (by omega)
  have B1 := b0.trans (b1.mono (by omega))
  have O1 := Lib.hid (own_base o1 (show w.heap.size ≤ wa.heap.size by omega))
  clear hN q0 q1 q2 q3 x0 b0 o1 b1 hz
  go_upto_region 4 with fail
  go_loopw [5, 6] (fun t i wr => ∃ (k i0 : Nat) (Av : Option Addr) (ac : Nat), k ≤ l.length ∧ i0 = 1 + 1 * k ∧ i = .int .i64 (i0 : Int) ∧ t = .slice Av k ac ∧ Hid (wr.ownsRow w.heap.size 68 3 (.slice Av k ac) k (fsFlat (l.take k))) ∧ Hid (wr.ownsRow w.heap.size 22 1 (.slice A1 q c1) q (ws.map uv)) ∧ Whole wr w.heap.size 44 #[.int .u8 192, .int .u8 0, .slice A d.length c, .slice K 0 kc] ∧ Below w.heap.size w wr) (fun _ i _ => q - (intOf i).toNat)
  case atStart => exact ⟨0, 1, none, 0, Nat.zero_le _, rfl, rfl, rfl, World.ownsRow_nil _ _ _ _, O1, x1, B1⟩
  case round =>
    obtain ⟨k, i0, Av, ac, hk, hi0, rfl, rfl, hR, hO, hX, hbel⟩ := hrel
    have hwr := hbel.size
    have HI0 := Lib.hid hi0
    obtain ⟨g4, rfl, hg4, hb4, hcl⟩ := own_cells2 hO.out (by have := HQ.out; omega)
    by_cases hlt : k < l.length
    · have hi1 : (i0 : Int) < (q : Int) := by have := HQ.out; omega
      have hiq : i0 < q := by omega
      have hkb : k ≤ 100000 := by have := HD3.out; omega
      have hi2 : (i0 : Int) < (1000000 : Int) := by have := HQ.out; have := HD3.out; omega
      have hs := HAT.out k hlt
      have e0 := hcl i0 (uv (nrd d (i0 * 4) 4)) (by rw [List.getElem?_map, HWS.out i0 hiq]; rfl)
      skip
      have ei : i0 * 4 = 4 + 4 * k := by omega
      rw [ei] at e0
      have hsp := nrd_split (d := d) (i := 4 + 4 * k) (by have := HD3.out; omega)
      have hlo := nrd2_lt d (4 + 4 * k) (by have := HD3.out; omega)
      have hlo2 := nrd2_lt d (4 + 4 * k + 2) (by have := HD3.out; omega)
      rw [skN_f] at hs
      skip
      generalize nrd d (4 + 4 * k) 4 = n0 at *
      generalize nrd d (4 + 4 * k) 2 = a0 at *
      generalize nrd d (4 + 4 * k + 2) 2 = a1 at *
      have HV0 : Hid (Value.int .u16 (IntKind.u16.wrap ((n0.toNat : Int) / 65536)) = hv (UInt16.ofNat a0.toNat)) := Lib.hid (by
        have e : (n0.toNat : Int) / 65536 = ((a0.toNat : Nat) : Int) := by omega
        rw [e]
        exact u16wrap _)
      have HV1 : Hid (Value.int .u32 ((n0.toNat : Int).tmod 65536) = uv a1) := Lib.hid (by
        have e : (n0.toNat : Int).tmod 65536 = (a1.toNat : Int) := by rw [Int.tmod_eq_emod_of_nonneg (by omega)]; omega
        rw [e])
      have HT : Hid (fsFlat (l.take (k + 1)) = fsFlat (l.take k) ++ [hv (UInt16.ofNat a0.toNat), .bool false, uv a1]) := Lib.hid (by rw [take_some hs, fsFlat_snoc])
      clear hs ei hi0 hsp hlo hlo2
      generalize UInt16.ofNat a0.toNat = st at *
      go_upto_region 6 with fail
      refine wp_region_held_drew (S := (fun W => W.cell? ⟨g4, i0, none⟩ = some (uv n0))) (by kernel_rfl) e0 (fun hHeld => ?_)
      refine take_at (i := 0) (v := ?_) (some 17) rfl (by kernel_rfl) (by kernel_rfl) (by kernel_rfl) (fun _ _ _ h => h) (by kernel_rfl) (Or.inl ⟨by kernel_rfl, ?_⟩) (by assumption) ?_
      rotate_left
      · (intro w hSw; (try dsimp only at hSw); go_simp <;> with_reducible rfl)
      simp only [Act.put, List.setIfInBounds_toArray, List.set_cons_zero, List.set_cons_succ]
      refine take_at (i := 1) (v := ?_) (some 18) rfl (by kernel_rfl) (by kernel_rfl) (by kernel_rfl) (fun _ _ _ h => h) (by kernel_rfl) (Or.inl ⟨by kernel_rfl, ?_⟩) (by assumption) ?_
      rotate_left
      · (intro w hSw; (try dsimp only at hSw); go_simp <;> with_reducible rfl)
      simp only [Act.put, List.setIfInBounds_toArray, List.set_cons_zero, List.set_cons_succ]
      refine take_at (i := 2) (v := ?_) (some 19) rfl (by kernel_rfl) (by kernel_rfl) (by kernel_rfl) (fun _ _ _ h => h) (by kernel_rfl) (Or.inl ⟨by kernel_rfl, ?_⟩) (by assumption) ?_
      rotate_left
      · (intro w hSw; (try dsimp only at hSw); go_simp <;> with_reducible rfl)
      simp only [Act.put, List.setIfInBounds_toArray, List.set_cons_zero, List.set_cons_succ]
      refine take_at (i := 3) (v := ?_) (some 20) rfl (by kernel_rfl) (by kernel_rfl) (by kernel_rfl) (fun _ _ _ h => h) (by kernel_rfl) (Or.inl ⟨by kernel_rfl, ?_⟩) (by assumption) ?_
      rotate_left
      · (intro w hSw; (try dsimp only at hSw); go_simp <;> with_reducible rfl)
      simp only [Act.put, List.setIfInBounds_toArray, List.set_cons_zero, List.set_cons_succ]
      refine take_at (i := 4) (v := ?_) (some 21) rfl (by kernel_rfl) (by kernel_rfl) (by kernel_rfl) (fun _ _ _ h => h) (by kernel_rfl) (Or.inl ⟨by kernel_rfl, ?_⟩) (by assumption) ?_
      rotate_left
      · (intro w hSw; (try dsimp only at hSw); go_simp <;> with_reducible rfl)
      simp only [Act.put, List.setIfInBounds_toArray, List.set_cons_zero, List.set_cons_succ]
      refine take_at (i := 5) (v := ?_) (some 22) rfl (by kernel_rfl) (by kernel_rfl) (by kernel_rfl) (fun _ _ _ h => h) (by kernel_rfl) (Or.inl ⟨by kernel_rfl, ?_⟩) (by assumption) ?_
      rotate_left
      · (intro w hSw; (try dsimp only at hSw); go_simp <;> with_reducible rfl)
      simp only [Act.put, List.setIfInBounds_toArray, List.set_cons_zero, List.set_cons_succ]
      refine take_at (i := 6) (v := ?_) (some 23) rfl (by kernel_rfl) (by kernel_rfl) (by kernel_rfl) (fun _ _ _ h => h) (by kernel_rfl) (Or.inl ⟨by kernel_rfl, ?_⟩) (by assumption) ?_
      rotate_left
      · (intro w hSw; (try dsimp only at hSw); go_simp <;> with_reducible rfl)
      simp only [Act.put, List.setIfInBounds_toArray, List.set_cons_zero, List.set_cons_succ]
      refine take_at (i := 7) (v := ?_) (some 24) rfl (by kernel_rfl) (by kernel_rfl) (by kernel_rfl) (fun _ _ _ h => h) (by kernel_rfl) (Or.inl ⟨by kernel_rfl, ?_⟩) (by assumption) ?_
      rotate_left
      · (intro w hSw; (try dsimp only at hSw); go_simp <;> with_reducible rfl)
      simp only [Act.put, List.setIfInBounds_toArray, List.set_cons_zero, List.set_cons_succ]
      refine take_at (i := 8) (v := ?_) (some 25) rfl (by kernel_rfl) (by kernel_rfl) (by kernel_rfl) (fun _ _ _ h => h) (by kernel_rfl) (Or.inl ⟨by kernel_rfl, ?_⟩) (by assumption) ?_
      rotate_left
      · (intro w hSw; (try dsimp only at hSw); go_simp <;> with_reducible rfl)
      simp only [Act.put, List.setIfInBounds_toArray, List.set_cons_zero, List.set_cons_succ]
      refine take_at (i := 9) (v := ?_) (some 26) rfl (by kernel_rfl) (by kernel_rfl) (by kernel_rfl) (fun _ _ _ h => h) (by kernel_rfl) (Or.inl ⟨by kernel_rfl, ?_⟩) (by assumption) ?_
      rotate_left
      · (intro w hSw; (try dsimp only at hSw); go_simp <;> with_reducible rfl)
      simp only [Act.put, List.setIfInBounds_toArray, List.set_cons_zero, List.set_cons_succ]
      refine take_at (i := 10) (v := ?_) (some 27) rfl (by kernel_rfl) (by kernel_rfl) (by kernel_rfl) (fun _ _ _ h => h) (by kernel_rfl) (Or.inl ⟨by kernel_rfl, ?_⟩) (by assumption) ?_
      rotate_left
      · (intro w hSw; (try dsimp only at hSw); go_simp <;> with_reducible rfl)
      simp only [Act.put, List.setIfInBounds_toArray, List.set_cons_zero, List.set_cons_succ]
      refine take_at (i := 11) (v := ?_) (some 28) rfl (by kernel_rfl) (by kernel_rfl) (by kernel_rfl) (fun _ _ _ h => h) (by kernel_rfl) (Or.inl ⟨by kernel_rfl, ?_⟩) (by assumption) ?_
      rotate_left
      · (intro w hSw; (try dsimp only at hSw); go_simp <;> with_reducible rfl)
      simp only [Act.put, List.setIfInBounds_toArray, List.set_cons_zero, List.set_cons_succ]
      refine wpAnyH_ready (rs := [12]) (by kernel_rfl) (by simp) ?_
      refine AllReadyH.cons rfl (fun K hK => ?_) AllReadyH.nil
      go_simp
      have bA : Below wr.heap.size wr (wr.alloc (.cells #[.int .u16 0, .bool false, .int .u32 0] 68)).drew := below_drew ((Below.refl _ _).alloc (Nat.le_refl _) _)
      have zA : Whole (wr.alloc (.cells #[.int .u16 0, .bool false, .int .u32 0] 68)).drew wr.heap.size 68 #[.int .u16 0, .bool false, .int .u32 0] := Whole.drew (Whole.new wr 68 #[.int .u16 0, .bool false, .int .u32 0])
      generalize (wr.alloc (.cells #[.int .u16 0, .bool false, .int .u32 0] 68)).drew = wA at *
      generalize hg7 : wr.heap.size = g7 at zA ⊢
      have hge7 : wr.heap.size ≤ g7 := by omega
      clear hg7
      clear hHeld
      refine hK.out _ _ ((bA.cell (p := ⟨g4, i0, none⟩) hg4).trans e0) (fun hHeld => ?_)
      clear hK K
      try simp only [Act.put, List.setIfInBounds_toArray, List.set_cons_zero, List.set_cons_succ]
      refine wpAnyH_ready (rs := [13]) (by kernel_rfl) (by simp) ?_
      refine AllReadyH.cons rfl (fun K hK => ?_) AllReadyH.nil
      have f0 := zA.frozen 0
      have f1 := zA.frozen 1
      have f2 := zA.frozen 2
      obtain ⟨z0, z1, z2⟩ := wh3 zA
      rw [HV0.out, HV1.out]
      go_simp
      have zB := ((zA.set_ 0 (hv st)).set_ 1 (.bool false)).set_ 2 (uv a1)
      have bB := ((bA.setCell (p := ⟨g7, 0, none⟩) hge7 (hv st)).setCell (p := ⟨g7, 1, none⟩) hge7 (.bool false)).setCell (p := ⟨g7, 2, none⟩) hge7 (uv a1)
      clear hHeld
      refine hK.out _ _ ((bB.cell (p := ⟨g4, i0, none⟩) hg4).trans e0) (fun hHeld => ?_)
      clear hK K
      try simp only [Act.put, List.setIfInBounds_toArray, List.set_cons_zero, List.set_cons_succ]
      refine wpAnyH_done (by kernel_rfl) ?_ _
      have zB : Whole (((wA.setCell ⟨g7, 0, none⟩ (hv st)).setCell ⟨g7, 1, none⟩ (.bool false)).setCell ⟨g7, 2, none⟩ (uv a1)) g7 68 #[hv st, .bool false, uv a1] := zB
      have bB : Below wr.heap.size wr (((wA.setCell ⟨g7, 0, none⟩ (hv st)).setCell ⟨g7, 1, none⟩ (.bool false)).setCell ⟨g7, 2, none⟩ (uv a1)) := bB
      generalize ((wA.setCell ⟨g7, 0, none⟩ (hv st)).setCell ⟨g7, 1, none⟩ (.bool false)).setCell ⟨g7, 2, none⟩ (uv a1) = wB at *
      have XB := hX.below bB hX.lt
      have hlt7 := zB.lt
      have rB := own_belowR hR.out bB
      have nB := own_belowR hO.out bB
      have BB := hbel.trans (bB.mono hwr)
      have x0 := (wh4 XB).1
      clear hHeld e0 zA bA hcl z0 z1 z2 f0 f1 f2
      obtain ⟨z0, z1, z2⟩ := wh3 zB
      have r1 : World.ownsRow (wB.alloc (.cells #[hv st, .bool false, uv a1] 68)) w.heap.size 68 3 (.slice Av k ac) k (fsFlat (l.take k)) := rB.alloc _
      have n1 : World.ownsRow (wB.alloc (.cells #[hv st, .bool false, uv a1] 68)) w.heap.size 22 1 (.slice (some ⟨g4, 0, none⟩) q c1) q (ws.map uv) := nB.alloc _
      have X1 : Whole (wB.alloc (.cells #[hv st, .bool false, uv a1] 68)) w.heap.size 44 _ := XB.alloc _
      have L1 : Lies (wB.alloc (.cells #[hv st, .bool false, uv a1] 68)) (wB.heap.size + 1) (some ⟨wB.heap.size, 0, none⟩) [hv st, .bool false, uv a1] := Lies.newN wB [hv st, .bool false, uv a1] 68
      have B1' : Below w.heap.size w (wB.alloc (.cells #[hv st, .bool false, uv a1] 68)) := BB.alloc BB.size _
      have hs1 : w.heap.size ≤ (wB.alloc (.cells #[hv st, .bool false, uv a1] 68)).heap.size := B1'.size
      have hone : ∀ u ∈ [hv st, .bool false, uv a1], u.oneCell' = true := by intro u hu; simp at hu; rcases hu with rfl | rfl | rfl <;> rfl
      go_wp2_with (at_builtin; refine wpList_append_wide13 _ rfl (.tmp 47) (.tmp 49) 40 rfl w.heap.size 68 _ 3 8 Tryz.underlying40 rfsinfo rfl (by omega) (.slice Av k ac) k _ rfl r1 _ (some ⟨wB.heap.size, 0, none⟩) 1 1 [hv st, .bool false, uv a1] rfl rfl L1 hone (by omega) (by unfold maxLen; omega) hs1 ?_; intro v' w7 own7 gr7; obtain ⟨A7, c7, rfl⟩ := own_slice2 own7)
      have B7 := B1'.grown gr7 hs1 (fun r e => (r1.lt r e).1)
      have R7 : Hid (w7.ownsRow w.heap.size 68 3 (.slice A7 (k + 1) c7) (k + 1) (fsFlat (l.take (k + 1)))) := Lib.hid (by rw [HT.out]; exact own7)
      have N7 : Hid (w7.ownsRow w.heap.size 22 1 (.slice (some ⟨g4, 0, none⟩) q c1) q (ws.map uv)) := Lib.hid (n1.kept gr7 (row_ne2 (by decide) n1 r1))
      have X7 : Whole w7 w.heap.size 44 _ := X1.grown gr7 (fun e => whole_row_ne13 X1 (by decide) r1 e.symm)
      clear own7 gr7 r1 L1 B1' n1 X1
      go_wp2_with fail
      go_roundw
      case rel => exact ⟨k + 1, i0 + 1, A7, c7, by omega, by have := HI0.out; omega, by go_num, rfl, R7, N7, X7, B7⟩
      case measure => simp [intOf]; omega
    · obtain rfl : k = l.length := by omega
      have hi1 : ¬ (i0 : Int) < (q : Int) := by have := HQ.out; omega
      rw [List.take_length] at hR
      have e0 := hcl 0 (uv (nrd d 0 4)) (by rw [List.getElem?_map, HWS.out 0 (by have := HQ.out; omega)]; rfl)
      have hq0 : (0 : Int) < (q : Int) := by have := HQ.out; omega
      clear hi0
      go_wp2_with fail
      refine bodyPost_ret (results_tmp2 rfl _ _ _) rfl ?_
      exact ⟨hbel, Av, ac, rfl, hR.out⟩
set_option maxRecDepth 100000 in
set_option maxHeartbeats 16000000 in
theorem rof16_true (d : List UInt8) (hx : isW ⟨194, 0, d, []⟩ = true) (A : Option Addr) (c : Nat) (K : Option Addr) (kc : Nat) (w : World) (h : Chunk w w.heap.size A c K kc ⟨194, 0, d, []⟩) :
    Calls Tryz.prog 33 #[.agg #[.int .u8 194, .int .u8 0, .slice A d.length c, .slice K 0 kc]] w fun e w' => Below w.heap.size w w' ∧ ∃ A' c', e = .returned (.tuple #[uv (nrd d 0 4), .slice A' (fwL true d).length c']) ∧ w'.ownsRow w.heap.size 68 3 (.slice A' (fwL true d).length c') (fwL true d).length (fsFlat (fwL true d)) := by
  obtain ⟨_, _, _, hd1, hd2, hd3⟩ := isW_all hx
  simp only at hd1 hd2 hd3
  have hit : itW ⟨194, 0, d, []⟩ = true := rfl
  rw [hit] at hd3
  have L0 : Lies w w.heap.size A (d.map bv) := h.data
  have b0 : Below w.heap.size w (w.alloc (.cells #[.int .u8 194, .int .u8 0, .slice A d.length c, .slice K 0 kc] 44)) := (Below.refl _ w).alloc (Nat.le_refl _) _
  have x0 := Whole.new w 44 #[.int .u8 194, .int .u8 0, .slice A d.length c, .slice K 0 kc]
  obtain ⟨l, hl⟩ : ∃ l, l = fwL true d := ⟨_, rfl⟩
  have HAT : Hid (∀ j, j < l.length → l[j]? = some (skN true ((d.drop (4 + 8 * j)).take 8))) := Lib.hid (fun j hj => by rw [hl] at hj ⊢; exact fwL_at hj)
  rw [← hl] at hd3 ⊢
  have HD3 : Hid (d.length = 4 + 8 * l.length) := Lib.hid hd3
  obtain ⟨q, hq⟩ : ∃ q, q = 1 + 2 * l.length := ⟨_, rfl⟩
  have hdq : d.length = q * 4 := by have := HD3.out; omega
  have HQ := Lib.hid hq
  have HWS : Hid (∀ j, j < q → (nums 4 d)[j]? = some (nrd d (j * 4) 4)) := Lib.hid (fun j hj => nums4_at (by omega))
  have hN := rnum_len 4 rfl A c d d.length q rfl hdq (by omega) (w.alloc (.cells #[.int .u8 194, .int .u8 0, .slice A d.length c, .slice K 0 kc] 44)) ((L0.below b0).more b0.size)
  have hz : w.heap.size + 1 = (w.alloc (.cells #[.int .u8 194, .int .u8 0, .slice A d.length c, .slice K 0 kc] 44)).heap.size := by simp
  clear hl hx h hit hd3 hdq hq L0
  generalize nums 4 d = ws at *
  go_enter Tryz.func33, Tryz.ntmps33
  go_upto_region 1 with fail
  generalize w.alloc (.cells #[.int .u8 194, .int .u8 0, .slice A d.length c, .slice K 0 kc] 44) = wa at *
  obtain ⟨q0, q1, q2, q3⟩ := wh4 x0
  go_wp2_with fail
  refine hN.mono ?_
  rintro e w1 ⟨A1, c1, rfl, o1, b1⟩
  have x1 := x0.below b1 (by omega)
  have B1 := b0.trans (b1.mono (by omega))
  have O1 := Lib.hid (own_base o1 (show w.heap.size ≤ wa.heap.size by omega))
  clear hN q0 q1 q2 q3 x0 b0 o1 b1 hz
  go_upto_region 4 with fail
  go_loopw [5, 6] (fun t i wr => ∃ (k i0 : Nat) (Av : Option Addr) (ac : Nat), k ≤ l.length ∧ i0 = 1 + 2 * k ∧ i = .int .i64 (i0 : Int) ∧ t = .slice Av k ac ∧ Hid (wr.ownsRow w.heap.size 68 3 (.slice Av k ac) k (fsFlat (l.take k))) ∧ Hid (wr.ownsRow w.heap.size 22 1 (.slice A1 q c1) q (ws.map uv)) ∧ Whole wr w.heap.size 44 #[.int .u8 194, .int .u8 0, .slice A d.length c, .slice K 0 kc] ∧ Below w.heap.size w wr) (fun _ i _ => q - (intOf i).toNat)
  case atStart => exact ⟨0, 1, none, 0, Nat.zero_le _, rfl, rfl, rfl, World.ownsRow_nil _ _ _ _, O1, x1, B1⟩
  case round =>
    obtain ⟨k, i0, Av, ac, hk, hi0, rfl, rfl, hR, hO, hX, hbel⟩ := hrel
    have hwr := hbel.size
    have HI0 := Lib.hid hi0
    obtain ⟨g4, rfl, hg4, hb4, hcl⟩ := own_cells2 hO.out (by have := HQ.out; omega)
    by_cases hlt : k < l.length
    · have hi1 : (i0 : Int) < (q : Int) := by have := HQ.out; omega
      have hiq : i0 < q := by omega
      have hkb : k ≤ 100000 := by have := HD3.out; omega
      have hi2 : (i0 : Int) < (1000000 : Int) := by have := HQ.out; have := HD3.out; omega
      have hs := HAT.out k hlt
      have e0 := hcl i0 (uv (nrd d (i0 * 4) 4)) (by rw [List.getElem?_map, HWS.out i0 hiq]; rfl)
      have e1 := hcl (i0 + 1) (uv (nrd d ((i0 + 1) * 4) 4)) (by rw [List.getElem?_map, HWS.out (i0 + 1) (by have := HQ.out; omega)]; rfl)
      have ei : i0 * 4 = 4 + 8 * k := by omega
      rw [ei] at e0
      have hsp := nrd_split (d := d) (i := 4 + 8 * k) (by have := HD3.out; omega)
      have hlo := nrd2_lt d (4 + 8 * k) (by have := HD3.out; omega)
      have hlo2 := nrd2_lt d (4 + 8 * k + 2) (by have := HD3.out; omega)
      rw [skN_t] at hs
      rw [show (i0 + 1) * 4 = 4 + 8 * k + 4 by omega] at e1
      generalize nrd d (4 + 8 * k + 4) 4 = n2 at *
      generalize nrd d (4 + 8 * k) 4 = n0 at *
      generalize nrd d (4 + 8 * k) 2 = a0 at *
      generalize nrd d (4 + 8 * k + 2) 2 = a1 at *
      have HV0 : Hid (Value.int .u16 (IntKind.u16.wrap ((n0.toNat : Int) / 65536)) = hv (UInt16.ofNat a0.toNat)) := Lib.hid (by
        have e : (n0.toNat : Int) / 65536 = ((a0.toNat : Nat) : Int) := by omega
        rw [e]
        exact u16wrap _)
      have HV1 : Hid (Value.int .u32 ((n0.toNat : Int).tmod 65536) = uv a1) := Lib.hid (by
        have e : (n0.toNat : Int).tmod 65536 = (a1.toNat : Int) := by rw [Int.tmod_eq_emod_of_nonneg (by omega)]; omega
        rw [e])
      have HT : Hid (fsFlat (l.take (k + 1)) = fsFlat (l.take k) ++ [hv (UInt16.ofNat a0.toNat), .bool (a1 == 1), uv n2]) := Lib.hid (by rw [take_some hs, fsFlat_snoc])
      have KC : Hid (∀ W, Below wr.heap.size wr W → W.cell? ⟨g4, i0, none⟩ = some (uv n0) ∧ W.cell? ⟨g4, i0 + 1, none⟩ = some (uv n2)) := Lib.hid (fun W hW => ⟨(hW.cell (p := ⟨g4, i0, none⟩) hg4).trans e0, (hW.cell (p := ⟨g4, i0 + 1, none⟩) hg4).trans e1⟩)
      have HU : Hid (((n0.toNat : Int) % 65536 == 1) = (a1 == 1)) := Lib.hid (by
        have e : (n0.toNat : Int) % 65536 = (a1.toNat : Int) := by omega
        rw [e, Bool.eq_iff_iff, beq_iff_eq, beq_iff_eq]
        constructor
        · intro e
          exact UInt32.toNat_inj.1 (by have : (1 : UInt32).toNat = 1 := rfl; omega)
        · rintro rfl; rfl)
      generalize (a1 == 1) = un at *
      clear hs ei hi0 hsp hlo hlo2 e1
      generalize UInt16.ofNat a0.toNat = st at *
      go_upto_region 6 with fail
      refine wp_region_held_drew (S := (fun W => W.cell? ⟨g4, i0, none⟩ = some (uv n0))) (by kernel_rfl) e0 (fun hHeld => ?_)
      refine take_at (i := 0) (v := ?_) (some 17) rfl (by kernel_rfl) (by kernel_rfl) (by kernel_rfl) (fun _ _ _ h => h) (by kernel_rfl) (Or.inl ⟨by kernel_rfl, ?_⟩) (by assumption) ?_
      rotate_left
      · (intro w hSw; (try dsimp only at hSw); go_simp <;> with_reducible rfl)
      simp only [Act.put, List.setIfInBounds_toArray, List.set_cons_zero, List.set_cons_succ]
      refine take_at (i := 1) (v := ?_) (some 18) rfl (by kernel_rfl) (by kernel_rfl) (by kernel_rfl) (fun _ _ _ h => h) (by kernel_rfl) (Or.inl ⟨by kernel_rfl, ?_⟩) (by assumption) ?_
      rotate_left
      · (intro w hSw; (try dsimp only at hSw); go_simp <;> with_reducible rfl)
      simp only [Act.put, List.setIfInBounds_toArray, List.set_cons_zero, List.set_cons_succ]
      refine take_at (i := 2) (v := ?_) (some 19) rfl (by kernel_rfl) (by kernel_rfl) (by kernel_rfl) (fun _ _ _ h => h) (by kernel_rfl) (Or.inl ⟨by kernel_rfl, ?_⟩) (by assumption) ?_
      rotate_left
      · (intro w hSw; (try dsimp only at hSw); go_simp <;> with_reducible rfl)
      simp only [Act.put, List.setIfInBounds_toArray, List.set_cons_zero, List.set_cons_succ]
      refine take_at (i := 3) (v := ?_) (some 20) rfl (by kernel_rfl) (by kernel_rfl) (by kernel_rfl) (fun _ _ _ h => h) (by kernel_rfl) (Or.inl ⟨by kernel_rfl, ?_⟩) (by assumption) ?_
      rotate_left
      · (intro w hSw; (try dsimp only at hSw); go_simp <;> with_reducible rfl)
      simp only [Act.put, List.setIfInBounds_toArray, List.set_cons_zero, List.set_cons_succ]
      refine take_at (i := 4) (v := ?_) (some 21) rfl (by kernel_rfl) (by kernel_rfl) (by kernel_rfl) (fun _ _ _ h => h) (by kernel_rfl) (Or.inl ⟨by kernel_rfl, ?_⟩) (by assumption) ?_
      rotate_left
      · (intro w hSw; (try dsimp only at hSw); go_simp <;> with_reducible rfl)
      simp only [Act.put, List.setIfInBounds_toArray, List.set_cons_zero, List.set_cons_succ]
      refine take_at (i := 5) (v := ?_) (some 22) rfl (by kernel_rfl) (by kernel_rfl) (by kernel_rfl) (fun _ _ _ h => h) (by kernel_rfl) (Or.inl ⟨by kernel_rfl, ?_⟩) (by assumption) ?_
      rotate_left
      · (intro w hSw; (try dsimp only at hSw); go_simp <;> with_reducible rfl)
      simp only [Act.put, List.setIfInBounds_toArray, List.set_cons_zero, List.set_cons_succ]
      refine take_at (i := 6) (v := ?_) (some 23) rfl (by kernel_rfl) (by kernel_rfl) (by kernel_rfl) (fun _ _ _ h => h) (by kernel_rfl) (Or.inl ⟨by kernel_rfl, ?_⟩) (by assumption) ?_
      rotate_left
      · (intro w hSw; (try dsimp only at hSw); go_simp <;> with_reducible rfl)
      simp only [Act.put, List.setIfInBounds_toArray, List.set_cons_zero, List.set_cons_succ]
      refine take_at (i := 7) (v := ?_) (some 24) rfl (by kernel_rfl) (by kernel_rfl) (by kernel_rfl) (fun _ _ _ h => h) (by kernel_rfl) (Or.inl ⟨by kernel_rfl, ?_⟩) (by assumption) ?_
      rotate_left
      · (intro w hSw; (try dsimp only at hSw); go_simp <;> with_reducible rfl)
      simp only [Act.put, List.setIfInBounds_toArray, List.set_cons_zero, List.set_cons_succ]
      refine take_at (i := 8) (v := ?_) (some 25) rfl (by kernel_rfl) (by kernel_rfl) (by kernel_rfl) (fun _ _ _ h => h) (by kernel_rfl) (Or.inl ⟨by kernel_rfl, ?_⟩) (by assumption) ?_
      rotate_left
      · (intro w hSw; (try dsimp only at hSw); go_simp <;> with_reducible rfl)
      simp only [Act.put, List.setIfInBounds_toArray, List.set_cons_zero, List.set_cons_succ]
      refine take_at (i := 9) (v := ?_) (some 26) rfl (by kernel_rfl) (by kernel_rfl) (by kernel_rfl) (fun _ _ _ h => h) (by kernel_rfl) (Or.inl ⟨by kernel_rfl, ?_⟩) (by assumption) ?_
      rotate_left
      · (intro w hSw; (try dsimp only at hSw); go_simp <;> with_reducible rfl)
      simp only [Act.put, List.setIfInBounds_toArray, List.set_cons_zero, List.set_cons_succ]
      refine take_at (i := 10) (v := ?_) (some 27) rfl (by kernel_rfl) (by kernel_rfl) (by kernel_rfl) (fun _ _ _ h => h) (by kernel_rfl) (Or.inl ⟨by kernel_rfl, ?_⟩) (by assumption) ?_
      rotate_left
      · (intro w hSw; (try dsimp only at hSw); go_simp <;> with_reducible rfl)
      simp only [Act.put, List.setIfInBounds_toArray, List.set_cons_zero, List.set_cons_succ]
      refine take_at (i := 11) (v := ?_) (some 28) rfl (by kernel_rfl) (by kernel_rfl) (by kernel_rfl) (fun _ _ _ h => h) (by kernel_rfl) (Or.inl ⟨by kernel_rfl, ?_⟩) (by assumption) ?_
      rotate_left
      · (intro w hSw; (try dsimp only at hSw); go_simp <;> with_reducible rfl)
      simp only [Act.put, List.setIfInBounds_toArray, List.set_cons_zero, List.set_cons_succ]
      refine wpAnyH_ready (rs := [12]) (by kernel_rfl) (by simp) ?_
      refine AllReadyH.cons rfl (fun K hK => ?_) AllReadyH.nil
      go_simp
      have bA : Below wr.heap.size wr (wr.alloc (.cells #[.int .u16 0, .bool false, .int .u32 0] 68)).drew := below_drew ((Below.refl _ _).alloc (Nat.le_refl _) _)
      have zA : Whole (wr.alloc (.cells #[.int .u16 0, .bool false, .int .u32 0] 68)).drew wr.heap.size 68 #[.int .u16 0, .bool false, .int .u32 0] := Whole.drew (Whole.new wr 68 #[.int .u16 0, .bool false, .int .u32 0])
      generalize (wr.alloc (.cells #[.int .u16 0, .bool false, .int .u32 0] 68)).drew = wA at *
      generalize hg7 : wr.heap.size = g7 at zA ⊢
      have hge7 : wr.heap.size ≤ g7 := by omega
      clear hg7
      clear hHeld
      refine hK.out _ _ ((bA.cell (p := ⟨g4, i0, none⟩) hg4).trans e0) (fun hHeld => ?_)
      clear hK K
      try simp only [Act.put, List.setIfInBounds_toArray, List.set_cons_zero, List.set_cons_succ]
      refine wpAnyH_ready (rs := [13]) (by kernel_rfl) (by simp) ?_
      refine AllReadyH.cons rfl (fun K hK => ?_) AllReadyH.nil
      have f0 := zA.frozen 0
      have f1 := zA.frozen 1
      have f2 := zA.frozen 2
      obtain ⟨z0, z1, z2⟩ := wh3 zA
      rw [HV0.out, HV1.out]
      go_simp
      have zB := ((zA.set_ 0 (hv st)).set_ 1 (.bool false)).set_ 2 (uv a1)
      have bB := ((bA.setCell (p := ⟨g7, 0, none⟩) hge7 (hv st)).setCell (p := ⟨g7, 1, none⟩) hge7 (.bool false)).setCell (p := ⟨g7, 2, none⟩) hge7 (uv a1)
      clear hHeld
      refine hK.out _ _ ((bB.cell (p := ⟨g4, i0, none⟩) hg4).trans e0) (fun hHeld => ?_)
      clear hK K
      try simp only [Act.put, List.setIfInBounds_toArray, List.set_cons_zero, List.set_cons_succ]
      refine wpAnyH_done (by kernel_rfl) ?_ _
      have zB : Whole (((wA.setCell ⟨g7, 0, none⟩ (hv st)).setCell ⟨g7, 1, none⟩ (.bool false)).setCell ⟨g7, 2, none⟩ (uv a1)) g7 68 #[hv st, .bool false, uv a1] := zB
      have bB : Below wr.heap.size wr (((wA.setCell ⟨g7, 0, none⟩ (hv st)).setCell ⟨g7, 1, none⟩ (.bool false)).setCell ⟨g7, 2, none⟩ (uv a1)) := bB
      generalize ((wA.setCell ⟨g7, 0, none⟩ (hv st)).setCell ⟨g7, 1, none⟩ (.bool false)).setCell ⟨g7, 2, none⟩ (uv a1) = wB at *
      have XB := hX.below bB hX.lt
      have hlt7 := zB.lt
      have rB := own_belowR hR.out bB
      have nB := own_belowR hO.out bB
      have BB := hbel.trans (bB.mono hwr)
      have x0 := (wh4 XB).1
      clear hHeld e0 zA bA hcl z0 z1 z2 f0 f1 f2
      obtain ⟨d0, d1⟩ := KC.out _ bB
      obtain ⟨y0, y1, y2⟩ := wh3 zB
      have hne : (Value.slice Av k ac).ownBlock ≠ some g7 := fun e => by have := (hR.out.lt _ e).2; omega
      have hwg : w.heap.size ≠ g7 := by have := hX.lt; omega
      have f1 := zB.frozen 1
      go_upto_region 9 with fail
      rw [HU.out]
      have zC := zB.set_ 1 (.bool un)
      have XC := XB.far (p := ⟨g7, 1, none⟩) hwg (.bool un)
      have rC := rB.kept (grownBy_setCell1 wB g7 1 (.bool un)) (.inr hne)
      have nC := nB.kept (grownBy_setCell1 wB g7 1 (.bool un)) (.inr (whole_row_ne13 zB (by decide) nB))
      have bC := bB.setCell (p := ⟨g7, 1, none⟩) hge7 (.bool un)
      have hlC := zC.lt
      generalize wB.setCell ⟨g7, 1, none⟩ (.bool un) = wC at *
      clear d0 d1 y0 y1 y2 f1 zB XB rB nB bB BB x0 hlt7
      obtain ⟨d0, d1⟩ := KC.out _ bC
      obtain ⟨y0, y1, y2⟩ := wh3 zC
      have f2 := zC.frozen 2
      have hi3 : (i0 : Int) + 1 < (q : Int) := by have := HQ.out; have := HI0.out; omega
      go_upto_region 10 with fail
      have zD := zC.set_ 2 (uv n2)
      have XD := XC.far (p := ⟨g7, 2, none⟩) hwg (uv n2)
      have rD := rC.kept (grownBy_setCell1 wC g7 2 (uv n2)) (.inr hne)
      have nD := nC.kept (grownBy_setCell1 wC g7 2 (uv n2)) (.inr (whole_row_ne13 zC (by decide) nC))
      have bD := bC.setCell (p := ⟨g7, 2, none⟩) hge7 (uv n2)
      generalize wC.setCell ⟨g7, 2, none⟩ (uv n2) = wD at *
      clear d0 d1 y0 y1 y2 f2 zC XC rC nC bC hlC
      have BD := hbel.trans (bD.mono hwr)
      have zD : Whole wD g7 68 #[hv st, .bool un, uv n2] := zD
      obtain ⟨z0, z1, z2⟩ := wh3 zD
      have r1 : World.ownsRow (wD.alloc (.cells #[hv st, .bool un, uv n2] 68)) w.heap.size 68 3 (.slice Av k ac) k (fsFlat (l.take k)) := rD.alloc _
      have n1 : World.ownsRow (wD.alloc (.cells #[hv st, .bool un, uv n2] 68)) w.heap.size 22 1 (.slice (some ⟨g4, 0, none⟩) q c1) q (ws.map uv) := nD.alloc _
      have X1 : Whole (wD.alloc (.cells #[hv st, .bool un, uv n2] 68)) w.heap.size 44 _ := XD.alloc _
      have L1 : Lies (wD.alloc (.cells #[hv st, .bool un, uv n2] 68)) (wD.heap.size + 1) (some ⟨wD.heap.size, 0, none⟩) [hv st, .bool un, uv n2] := Lies.newN wD [hv st, .bool un, uv n2] 68
      have B1' : Below w.heap.size w (wD.alloc (.cells #[hv st, .bool un, uv n2] 68)) := BD.alloc BD.size _
      have hs1 : w.heap.size ≤ (wD.alloc (.cells #[hv st, .bool un, uv n2] 68)).heap.size := B1'.size
      have hone : ∀ u ∈ [hv st, .bool un, uv n2], u.oneCell' = true := by intro u hu; simp at hu; rcases hu with rfl | rfl | rfl <;> rfl
      go_wp2_with (at_builtin; refine wpList_append_wide13 _ rfl (.tmp 47) (.tmp 49) 40 rfl w.heap.size 68 _ 3 8 Tryz.underlying40 rfsinfo rfl (by omega) (.slice Av k ac) k _ rfl r1 _ (some ⟨wD.heap.size, 0, none⟩) 1 1 [hv st, .bool un, uv n2] rfl rfl L1 hone (by omega) (by unfold maxLen; omega) hs1 ?_; intro v' w7 own7 gr7; obtain ⟨A7, c7, rfl⟩ := own_slice2 own7)
      have B7 := B1'.grown gr7 hs1 (fun r e => (r1.lt r e).1)
      have R7 : Hid (w7.ownsRow w.heap.size 68 3 (.slice A7 (k + 1) c7) (k + 1) (fsFlat (l.take (k + 1)))) := Lib.hid (by rw [HT.out]; exact own7)
      have N7 : Hid (w7.ownsRow w.heap.size 22 1 (.slice (some ⟨g4, 0, none⟩) q c1) q (ws.map uv)) := Lib.hid (n1.kept gr7 (row_ne2 (by decide) n1 r1))
      have X7 : Whole w7 w.heap.size 44 _ := X1.grown gr7 (fun e => whole_row_ne13 X1 (by decide) r1 e.symm)
      clear own7 gr7 r1 L1 B1' n1 X1
      go_wp2_with fail
      go_roundw
      case rel => exact ⟨k + 1, i0 + 2, A7, c7, by omega, by have := HI0.out; omega, by go_num, rfl, R7, N7, X7, B7⟩
      case measure => simp [intOf]; omega
    · obtain rfl : k = l.length := by omega
      have hi1 : ¬ (i0 : Int) < (q : Int) := by have := HQ.out; omega
      rw [List.take_length] at hR
      have e0 := hcl 0 (uv (nrd d 0 4)) (by rw [List.getElem?_map, HWS.out 0 (by have := HQ.out; omega)]; rfl)
      have hq0 : (0 : Int) < (q : Int) := by have := HQ.out; omega
      clear hi0
      go_wp2_with fail
      refine bodyPost_ret (results_tmp2 rfl _ _ _) rfl ?_
      exact ⟨hbel, Av, ac, rfl, hR.out⟩
theorem rof16_any (x : Ck) (hx : isW x = true) (A : Option Addr) (c : Nat) (K : Option Addr) (k : Nat) (w : World) (h : Chunk w w.heap.size A c K k x) :
    Calls Tryz.prog 33 #[ckV x A c K k] w fun e w' => Below w.heap.size w w' ∧ ∃ A' c', e = .returned (.tuple #[uv (ofWt x), .slice A' (ofWl x).length c']) ∧ w'.ownsRow w.heap.size 68 3 (.slice A' (ofWl x).length c') (ofWl x).length (fsFlat (ofWl x)) := by
  have e1 : ofWt x = nrd x.d 0 4 := by unfold ofWt; rw [if_pos hx]
  have e2 : ofWl x = fwL (itW x) x.d := by unfold ofWl; rw [if_pos hx]
  rw [e1, e2]
  obtain ⟨h1, h2, h3, _⟩ := isW_all hx
  obtain ⟨t, fl, d, ks⟩ := x
  simp only at h1 h2 h3
  subst h2 h3
  cases hb : itW ⟨t, 0, d, []⟩ with
  | false =>
    rw [hb] at h1
    obtain rfl : t = 192 := h1
    exact rof16_false d hx A c K k w h
  | true =>
    rw [hb] at h1
    obtain rfl : t = 194 := h1
    exact rof16_true d hx A c K k w h
end Go.Proofs.YtmohbkniekeafaaGreatDoor



namespace Go.Proofs.YtmohbkniekeafaaGreatDoor
open Go.RowKit

theorem cut_flat (d : List UInt8) (u : Nat) : ∀ k, ((List.range k).map fun j => (d.drop (u * j)).take u).flatten = d.take (u * k)
  | 0 => by simp
  | k + 1 => by
    rw [List.range_succ, List.map_append, List.flatten_append, cut_flat d u k, Nat.mul_add, Nat.mul_one, List.take_add]
    simp
theorem two_lt (p : List UInt8) (i : Nat) (h : i + 2 ≤ p.length) : numOf ((p.drop i).take 2) < 65536 ∧ ((p.drop i).take 2).length = 2 ∧ numOf ((p.drop i).take 2) = num2 p i := by
  rw [drop_two h, numOf_twoE]
  exact ⟨num2_lt p i, rfl, rfl⟩
theorem be_nrd (p : List UInt8) (i k : Nat) (hk : k = 1 ∨ k = 2 ∨ k = 4) (h : i + k ≤ p.length) : be k (nrd p i k) = (p.drop i).take k :=
  be_numOf hk (by rw [List.length_take, List.length_drop]; omega)
theorem st_nrd (p : List UInt8) (h : 2 ≤ p.length) : u32of (UInt16.ofNat (nrd p 0 2).toNat).toNat = nrd p 0 2 := by
  have h1 := (two_lt p 0 (by omega)).1
  have h2 := nrd_toNat p 0 2
  rw [UInt16.toNat_ofNat']
  apply UInt32.toNat_inj.1
  rw [u32of_toNat (by omega)]
  omega
theorem un_nrd {x : UInt32} (h : x.toNat ≤ 1) : u32of (unN (x == 1)).toNat = x := by
  have h2 : x = 0 ∨ x = 1 := by
    rcases (show x.toNat = 0 ∨ x.toNat = 1 by omega) with e | e
    · exact .inl (UInt32.toNat_inj.1 e)
    · exact .inr (UInt32.toNat_inj.1 e)
  rcases h2 with rfl | rfl <;> rfl
theorem pcs8F (p : List UInt8) (h : p.length = 8) : (p.drop 0).take 2 ++ (p.drop 2).take 2 ++ (p.drop 4).take 4 = p := by
  match p, h with
  | [a, b, c, d, e, f, g, i], _ => rfl
theorem pcs4F (p : List UInt8) (h : p.length = 4) : (p.drop 0).take 2 ++ (p.drop 2).take 2 = p := by
  match p, h with
  | [a, b, c, d], _ => rfl
theorem puts_twoF (a b : UInt32) : puts 2 [a, b] = be 2 a ++ be 2 b := by unfold puts; simp
theorem puts_oneF (k : Nat) (a : UInt32) : puts k [a] = be k a := by unfold puts; simp
theorem fsB_skN (inter : Bool) (p : List UInt8) (hp : p.length = unitN inter) (h1 : inter = true → num2 p 2 ≤ 1) : fsB inter (skN inter p) = p := by
  cases inter with
  | true =>
    have hp8 : p.length = 8 := hp
    have h2 : (nrd p 2 2).toNat ≤ 1 := by rw [nrd_toNat, (two_lt p 2 (by omega)).2.2]; exact h1 rfl
    have e1 : fsB true (skN true p) = puts 2 [u32of (UInt16.ofNat (nrd p 0 2).toNat).toNat, u32of (unN (nrd p 2 2 == 1)).toNat] ++ puts 4 [nrd p 4 4] := rfl
    rw [e1, st_nrd p (by omega), un_nrd h2, puts_twoF, puts_oneF, be_nrd p 0 2 (.inr (.inl rfl)) (by omega), be_nrd p 2 2 (.inr (.inl rfl)) (by omega), be_nrd p 4 4 (.inr (.inr rfl)) (by omega)]
    exact pcs8F p hp8
  | false =>
    have hp4 : p.length = 4 := hp
    have e1 : fsB false (skN false p) = puts 2 [u32of (UInt16.ofNat (nrd p 0 2).toNat).toNat, nrd p 2 2] := rfl
    rw [e1, st_nrd p (by omega), puts_twoF, be_nrd p 0 2 (.inr (.inl rfl)) (by omega), be_nrd p 2 2 (.inr (.inl rfl)) (by omega)]
    exact pcs4F p hp4
theorem fB_back {inter : Bool} {d : List UInt8} (hl : d.length = 4 + unitN inter * ((d.length - 4) / unitN inter)) (hv : inter = true → ∀ j, j < (d.length - 4) / unitN inter → num2 d (4 + 8 * j + 2) ≤ 1) : fB inter (nrd d 0 4) (fwL inter d) = d := by
  obtain ⟨m, hm⟩ : ∃ m, (d.length - 4) / unitN inter = m := ⟨_, rfl⟩
  have e0 : d = d.take 4 ++ d.drop 4 := (List.take_append_drop 4 d).symm
  rw [hm] at hl hv
  have hpc : ∀ j, j < m → unitN inter * j + unitN inter ≤ unitN inter * m := fun j hj => by
    have := Nat.mul_le_mul_left (unitN inter) (show j + 1 ≤ m by omega)
    rw [Nat.mul_add, Nat.mul_one] at this
    exact this
  have e2 : ((fwL inter d).map (fsB inter)).flatten = d.drop 4 := by
    have e3 : (fwL inter d).map (fsB inter) = (List.range m).map fun j => ((d.drop 4).drop (unitN inter * j)).take (unitN inter) := by
      unfold fwL
      rw [List.map_map, hm]
      refine List.map_congr_left fun j hj => ?_
      have hj2 := List.mem_range.1 hj
      have h5 := hpc j hj2
      show fsB inter (skN inter ((d.drop (4 + unitN inter * j)).take (unitN inter))) = _
      rw [List.drop_drop]
      refine fsB_skN inter _ (by rw [List.length_take, List.length_drop]; omega) fun hi => ?_
      subst hi
      have hu : unitN true = 8 := rfl
      rw [hu] at h5 hl ⊢
      have h6 := hv rfl j hj2
      have hle : 2 + 2 ≤ ((d.drop (4 + 8 * j)).take 8).length := by rw [List.length_take, List.length_drop]; omega
      have h7 := (two_lt _ 2 hle).2.2
      have h8 := (two_lt d (4 + 8 * j + 2) (by omega)).2.2
      have e : (((d.drop (4 + 8 * j)).take 8).drop 2).take 2 = (d.drop (4 + 8 * j + 2)).take 2 := by
        rw [List.drop_take, List.take_take, List.drop_drop]
        rfl
      rw [← h7, e, h8]
      exact h6
    rw [e3, cut_flat]
    exact List.take_of_length_le (by rw [List.length_drop]; omega)
  unfold fB
  rw [e2, puts_oneF, be_nrd d 0 4 (.inr (.inr rfl)) (by omega)]
  exact e0.symm
theorem wg_one {d : List UInt8} (h : ¬ wgOf d < d.length) (hl : d.length = 4 + 8 * ((d.length - 4) / 8)) : ∀ j, j < (d.length - 4) / 8 → num2 d (4 + 8 * j + 2) ≤ 1 := by
  intro j hj
  cases hg : grp d with
  | none =>
    unfold grp at hg
    rw [List.find?_eq_none] at hg
    have := hg j (List.mem_range.2 hj)
    simpa using this
  | some k =>
    have hk : k < (d.length - 4) / 8 := List.mem_range.1 (List.mem_of_find?_eq_some hg)
    unfold wgOf at h
    rw [hg] at h
    have : (some k : Option Nat).getD ((d.length - 4) / 8) = k := rfl
    rw [this] at h
    omega
theorem isW_back {x : Ck} (h : isW x = true) : fwC (itW x) (nrd x.d 0 4) (fwL (itW x) x.d) = x := by
  obtain ⟨h1, h2, h3, h4, h5, h6⟩ := isW_all h
  obtain ⟨_, h8⟩ := isW_parts h
  have h9 := (chk_parts h8).2.2.2.2.1
  have hlen : (fwL (itW x) x.d).length = (x.d.length - 4) / unitN (itW x) := by simp [fwL]
  rw [hlen] at h6
  have hf := fB_back h6 fun hi => by
    rw [hi] at h1 h6 ⊢
    have hu : unitN true = 8 := rfl
    rw [hu] at h6 ⊢
    unfold cvalO at h9
    rw [h1, if_neg (by decide), if_pos (show tyF true = 194 from rfl)] at h9
    refine wg_one (fun hlt => ?_) h6
    rw [if_pos hlt] at h9
    cases h9
  obtain ⟨t, fl, d, ks⟩ := x
  simp only at h1 h2 h3 hf
  unfold fwC
  rw [hf, ← h1, h2, h3]
theorem isW_have {x : Ck} (h : isW x = true) : haveB (itW x) (fwL (itW x) x.d) = true := by
  obtain ⟨_, _, _, h4, h5, h6⟩ := isW_all h
  generalize hgb : itW x = b at *
  have hany : b = false → (fwL b x.d).any onlyB = false := fun hb => by
    subst hb
    rw [List.any_eq_false]
    intro s hs
    obtain ⟨j, hj, rfl⟩ := List.mem_map.1 hs
    have hj2 := List.mem_range.1 hj
    have hu : unitN false = 4 := rfl
    rw [hu] at h6 hj2 ⊢
    have hle : 2 + 2 ≤ ((x.d.drop (4 + 4 * j)).take 4).length := by rw [List.length_take, List.length_drop]; omega
    have h7 := (two_lt _ 2 hle).1
    have h8 := nrd_toNat ((x.d.drop (4 + 4 * j)).take 4) 2 2
    unfold onlyB skN
    rw [if_neg (by simp)]
    simp only [Bool.false_or, decide_eq_true_eq]
    omega
  unfold haveB
  have hm : (fwL b x.d).length ≤ mostN b 65535 := by
    unfold mostN
    rw [if_neg (by omega)]
    refine (Nat.le_div_iff_mul_le (by cases b <;> decide)).2 ?_
    rw [Nat.mul_comm]
    cases b with
    | true => have hu : unitN true = 8 := rfl; rw [hu] at h6 ⊢; omega
    | false => have hu : unitN false = 4 := rfl; rw [hu] at h6 ⊢; omega
  rw [decide_eq_true hm, Bool.true_and]
  cases b with
  | true => rfl
  | false => rw [hany rfl]; rfl
end Go.Proofs.YtmohbkniekeafaaGreatDoor


