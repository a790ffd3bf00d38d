/- Layer 14: the set of offsets and the duplicates (divided), in a map of the call's own. It writes nothing that was there. -/
/- Layer 14: the keys of an own set of offsets, as an iterator (maps.Keys): each once, in some order. -/
/- Layer 14: slices.AppendSeq and Collect of the keys of an own set. -/
import Derived.Test.YtabljmiiekpgiaaGreatDoorQSKA
import Derived.Test.YtabljmiiekpgiaaGreatDoorQCT
import Derived.Maps.OwnSet
import Derived.Maps.OwnOps
import Derived.BigGuard
import Derived.Test.YtabljmiiekpgiaaGreatDoorQEL
import Derived.Sort.MapsRangeIn
import Derived.RangeFuncGives
import Derived.WalkMore
import Derived.Deep.RegionHeld3
import Derived.Test.YtabljmiiekpgiaaGreatDoorQNW
import Derived.RangeFuncBox





namespace Go.Proofs.YtabljmiiekpgiaaGreatDoor
open Go.RowKit Go.Maps

set_option linter.unusedSimpArgs false
theorem u32infoE : (Tryz.prog.info? 22).map (fun i => (i.zero, i.size, i.bytes)) = some (some (.int .u32 0), 1, 4) := by kernel_rfl
abbrev k32 (x : UInt32) : Lit := .int .u32 (x.toNat : Int)
theorem k32_wf (x : UInt32) : (k32 x).wf = true := by
  have h := x.toNat_lt
  have h1 : IntKind.u32.min = 0 := rfl
  have h2 : IntKind.u32.max = 4294967295 := rfl
  simp only [Lit.wf, Bool.and_eq_true, decide_eq_true_eq]
  omega
theorem k32_key (x : UInt32) : keyOf Tryz.prog 22 (uv x) = some (k32 x) := keyOf_int_mk Tryz.underlying22 (k32_wf x)
theorem k32_inj {x y : UInt32} (h : k32 x = k32 y) : x = y := by
  simp only [k32, Lit.int.injEq, true_and] at h
  exact UInt32.toNat_inj.1 (by omega)
/-- a set of offsets, as a map's datum -/
def setD (acc : List UInt32) : DataW Unit := setOf (.lit (.bool true)) (acc.map k32)
theorem setD_snoc (acc : List UInt32) (x : UInt32) : setD (acc ++ [x]) = (setD acc).put (k32 x) (.lit (.bool true)) := by
  unfold setD
  rw [List.map_append]
  exact setOf_snoc _ _ _
theorem k32_lit (x : UInt32) : WideAt.IsKeyLit (k32 x) := by
  trivial
theorem fold_at : ∀ (l : List UInt32) (m : DataW Unit), IsMap m → ∀ x : UInt32, ((l.map k32).foldl (fun m x => m.put x (.lit (.bool true))) m).atKey (k32 x) (.lit (.bool false)) = if x ∈ l then .lit (.bool true) else m.atKey (k32 x) (.lit (.bool false))
  | [], m, _, x => by simp
  | y :: l, m, hm, x => by
    rw [List.map_cons, List.foldl_cons, fold_at l _ (hm.put _ _) x]
    by_cases hl : x ∈ l
    · rw [if_pos hl, if_pos (List.mem_cons_of_mem _ hl)]
    · rw [if_neg hl]
      by_cases h : x = y
      · subst h
        rw [if_pos (List.mem_cons_self ..), atKey_put_same hm (k32_lit x)]
      · rw [if_neg (by simp [h, hl]), atKey_put_other (fun e => h (k32_inj e))]
theorem setD_at (acc : List UInt32) (x : UInt32) : (setD acc).atKey (k32 x) (.lit (.bool false)) = .lit (.bool (decide (x ∈ acc))) := by
  have h := fold_at acc (.map []) isMap_empty x
  unfold setD setOf
  rw [h]
  by_cases hx : x ∈ acc
  · rw [if_pos hx, decide_eq_true hx]
  · rw [if_neg hx, decide_eq_false hx]
    rfl
theorem ownsMap_lookup_bool {H : Type} {P : Program} {w : World} {k t e : TypeId} {b n : Nat} {D : DataW H} (h : w.ownsMap P k (plainElem P e) b n D) (K : Keyed P k) (ht : P.underlying t = some (.map k e)) (he : P.underlying e = some .bool) (hz : (zeroValue e).run P w = .ok (.bool false) w)
    {key : Value} {kl : Lit} (hkey : keyOf P k key = some kl) : ∃ c, (Instr.lookup t (.map (some b)) key false).run P w = .ok (.bool c) w ∧ D.atKey kl (.lit (.bool false)) = .lit (.bool c) := by
  obtain ⟨v, ps, hrun, hv⟩ := h.lookup K ht hz (plainElem_bool he false) hkey
  cases v with
  | bool c =>
    rw [plainElem_bool he] at hv
    simp only [Option.some.injEq, Prod.mk.injEq] at hv
    exact ⟨c, hrun, hv.1.symm⟩
  | _ => simp [plainElem, he] at hv
/-- 'm[k]' at elements of type bool -/
theorem wpList_lookup_own_bool {H : Type} {P : Program} (w : World) {ops : Array Oper} {rest : List Oper} {o : Oper} {a : Act} {Q : Exit → Act → World → Prop}
    (hg : Region.wanted o (yielded ops a.tmps) = true) (m x : Operand) (t : TypeId) (hop : o.op = Op.lookup t m x false)
    (k e : TypeId) (K : Keyed P k) (ht : P.underlying t = some (.map k e)) (he : P.underlying e = some .bool) (hz : (zeroValue e).run P w = .ok (.bool false) w) (b n : Nat) (D : DataW H)
    (hm : a.eval m = .map (some b)) (hown : w.ownsMap P k (plainElem P e) b n D) (key : Value) (kl : Lit) (hx : a.eval x = key) (hkey : keyOf P k key = some kl)
    (hK : ∀ c : Bool, D.atKey kl (.lit (.bool false)) = .lit (.bool c) → wpList P ops Q rest (a.put o.dst (.bool c)) w) :
    wpList P ops Q (o :: rest) a w := by
  refine wpList_step fun K' hK' => ?_
  rw [if_pos hg]
  obtain ⟨c, hrun, hat⟩ := ownsMap_lookup_bool hown K ht he hz hkey
  unfold Oper.wp
  simp [execOp, hop, hm, hx, hrun, Result.andThen]
  exact hK' _ _ (hK c hat)
def dvStep (cum : UInt32) (s : List UInt32 × List UInt32) (x : UInt32) : List UInt32 × List UInt32 :=
  if (upB cum x || decide (x - cum ∈ s.1)) = true then (s.1, s.2 ++ [x]) else if (x - cum).toNat < 2147483648 then (s.1 ++ [x - cum], s.2) else s
/-- the offsets that count, and the duplicates -/
def dvd (cum : UInt32) (l : List UInt32) : List UInt32 × List UInt32 := l.foldl (dvStep cum) ([], [])
theorem dvd_take {cum : UInt32} {l : List UInt32} {k : Nat} {x : UInt32} (h : l[k]? = some x) : dvd cum (l.take (k + 1)) = dvStep cum (dvd cum (l.take k)) x := by
  rw [take_some h]
  unfold dvd
  rw [List.foldl_append]
  rfl
theorem dvStep_le (cum : UInt32) (s : List UInt32 × List UInt32) (x : UInt32) : (dvStep cum s x).1.length ≤ s.1.length + 1 ∧ (dvStep cum s x).2.length ≤ s.2.length + 1 := by
  unfold dvStep
  split
  · simp
  · split <;> simp
theorem dvd_le (cum : UInt32) (l : List UInt32) : ∀ k, k ≤ l.length → (dvd cum (l.take k)).1.length ≤ k ∧ (dvd cum (l.take k)).2.length ≤ k
  | 0, _ => by simp [dvd]
  | k + 1, h => by
    have ih := dvd_le cum l k (by omega)
    rw [dvd_take (List.getElem?_eq_getElem (by omega : k < l.length))]
    have h2 := dvStep_le cum (dvd cum (l.take k)) l[k]
    omega
theorem zero_bool (w : World) : (zeroValue 4).run Tryz.prog w = .ok (.bool false) w := by
  have h : (Tryz.prog.info? 4).map (fun i => i.zero) = some (some (.bool false)) := by kernel_rfl
  obtain ⟨i, hi, hz⟩ := Option.map_eq_some_iff.1 h
  simp [zeroValue, go_sem, typeInfo, hi, hz]
set_option maxRecDepth 100000 in
set_option maxHeartbeats 16000000 in
theorem divided_any (cum : UInt32) (came : List UInt32) (hl : came.length ≤ 100000) (A : Option Addr) (c : Nat) (w : World) (h : Lies w w.heap.size A (came.map uv)) :
    Calls Tryz.prog 78 #[uv cum, .slice A came.length c] w fun e w' => ∃ A' c', e = .returned (.tuple #[.map (some w.heap.size), .slice A' (dvd cum came).2.length c']) ∧ w'.ownsMap Tryz.prog 22 (plainElem (H := Unit) Tryz.prog 4) w.heap.size came.length (setD (dvd cum came).1) ∧
      w'.ownsRow (w.heap.size + 1) 22 1 (.slice A' (dvd cum came).2.length c') (dvd cum came).2.length ((dvd cum came).2.map uv) ∧ Below w.heap.size w w' := by
  have law : Keyed Tryz.prog 22 := int_keyed Tryz.underlying22
  have hmm := @run_makeMap Tryz.prog
  have hm1 := World.ownsMap_made w Tryz.prog 22 (plainElem (H := Unit) Tryz.prog 4)
  have b0 : Below w.heap.size w (w.alloc (.map #[] 0)) := (Below.refl _ w).alloc (Nat.le_refl _) _
  have HL := Lib.hid h
  have HUp := Lib.hid (isUpTo_any cum)
  clear h
  go_enter Tryz.func78, Tryz.ntmps78
  go_upto_region 4 with fail
  go_loopw [7, 14] (fun l i wr => ∃ (j : Nat) (Al : Option Addr) (cl : Nat), j ≤ came.length ∧ i = .int .i64 (j : Int) ∧ l = .slice Al (dvd cum (came.take j)).2.length cl ∧ Hid (wr.ownsMap Tryz.prog 22 (plainElem (H := Unit) Tryz.prog 4) w.heap.size j (setD (dvd cum (came.take j)).1)) ∧
    wr.ownsRow (w.heap.size + 1) 22 1 (.slice Al (dvd cum (came.take j)).2.length cl) (dvd cum (came.take j)).2.length ((dvd cum (came.take j)).2.map uv) ∧ Below w.heap.size w wr ∧ w.heap.size + 1 ≤ wr.heap.size) (fun _ i _ => came.length - (intOf i).toNat)
  case atStart => exact ⟨0, none, 0, Nat.zero_le _, rfl, rfl, hm1, World.ownsRow_nil _ _ _ _, b0, by simp⟩
  case round =>
    obtain ⟨j, Al, cl, hj, rfl, rfl, hown, hrow, hbel, hsz⟩ := hrel
    by_cases hlt : j < came.length
    · obtain ⟨x, hx⟩ : ∃ x, came[j]? = some x := ⟨_, List.getElem?_eq_getElem hlt⟩
      have hi1 : (j : Int) < (came.length : Int) := by omega
      obtain ⟨ad, rfl, hadb, hcell⟩ := HL.out (fun e => by rw [List.map_eq_nil_iff] at e; rw [e] at hlt; simp at hlt)
      have hadr : wr.cell? (ad.add j) = some (uv x) := (hbel.cell (by rw [blk_add]; exact hadb)).trans (hcell j (uv x) (by rw [List.getElem?_map, hx]; rfl))
      have hle := dvd_le cum came j hj
      have HS := Lib.hid (dvd_take (cum := cum) hx)
      have hs32 := sub32 x cum
      have hU := HUp.out x wr
      have HR := Lib.hid hrow
      have HB := Lib.hid hbel
      clear hx hcell hrow hbel
      generalize dvd cum (came.take j) = S at *
      obtain ⟨acc, dups⟩ := S
      simp only at *
      unfold dvStep at HS
      have HAt := Lib.hid (setD_at acc (x - cum))
      generalize x - cum = off at *
      generalize upB cum x = u at *
      go_upto_region 7 with fail
      go_wp2_with fail
      refine hU.mono ?_
      rintro e w2 ⟨rfl, rfl⟩
      cases u with
      | true =>
        have HS2 : Hid (dvd cum (came.take (j + 1)) = (acc, dups ++ [x])) := by unfold Hid; rw [HS.out, if_pos (by simp)]
        clear HS HAt
        go_wp2_with (at_builtin; refine wpList_append_lies _ rfl (.tmp 30) (.tmp 32) 24 rfl (w.heap.size + 1) 22 _ 4 Tryz.underlying24 u32infoE rfl _ _ _ rfl (HR.out.alloc _) _ _ 1 1 _ rfl rfl (Lies.new1 _ _ _) (by intro u hu; rw [List.mem_singleton.1 hu]; rfl) (by omega) (by unfold maxLen; omega) (by simp; omega) ?_; intro A4 c4 w4 hown4 hgrow4 _)
        have v4 : Below wr.heap.size wr (wr.alloc (.cells #[uv x] 22)) := (Below.refl _ _).alloc (Nat.le_refl _) _
        have B4 := below_own (HB.out.trans (v4.mono (by omega))) (HR.out.alloc _) hgrow4 (Nat.le_succ _) (by simp; omega)
        have M4 : Hid (w4.ownsMap Tryz.prog 22 (plainElem (H := Unit) Tryz.prog 4) w.heap.size (j + 1) (setD acc)) := Lib.hid (((hown.out.alloc _).kept hgrow4 (fun e => by have h9 := ((HR.out.alloc (.cells #[uv x] 22)).lt w.heap.size e.symm).1; omega)).mono (Nat.le_succ _))
        have H4 := Lib.hid hown4
        have hs4 := hgrow4.size
        rw [World.size_alloc] at hs4
        clear hown4 hgrow4
        go_wp2_with fail
        go_roundw
        case rel => exact ⟨j + 1, A4, c4, by omega, by go_num, by rw [HS2.out]; simp, by rw [HS2.out]; exact M4, by rw [HS2.out]; simpa using H4.out, B4, by omega⟩
        case measure => simp [intOf]; omega
      | false =>
        have hzb := zero_bool wr
        by_cases hmem : off ∈ acc
        · have HS2 : Hid (dvd cum (came.take (j + 1)) = (acc, dups ++ [x])) := by unfold Hid; rw [HS.out, if_pos (by simp [hmem])]
          have HCC : Hid (∀ cc : Bool, (setD acc).atKey (k32 off) (.lit (.bool false)) = .lit (.bool cc) → cc = true) := Lib.hid (fun cc e => by
            rw [HAt.out, decide_eq_true hmem] at e
            simp only [DataW.lit.injEq, Lit.bool.injEq] at e
            exact e.symm)
          clear HS HAt hmem
          go_wp2_with (first | (at_lookup; refine wpList_lookup_own_bool wr (by rfl) _ _ 119 rfl 22 4 law Tryz.underlying119 Tryz.underlying4 hzb w.heap.size j _ rfl hown.out _ (k32 off) rfl (k32_key off) ?_; intro cc hat; obtain rfl := HCC.out cc hat) | (at_builtin; refine wpList_append_lies _ rfl (.tmp 30) (.tmp 32) 24 rfl (w.heap.size + 1) 22 _ 4 Tryz.underlying24 u32infoE rfl _ _ _ rfl (HR.out.alloc _) _ _ 1 1 _ rfl rfl (Lies.new1 _ _ _) (by intro u hu; rw [List.mem_singleton.1 hu]; rfl) (by omega) (by unfold maxLen; omega) (by simp; omega) ?_; intro A4 c4 w4 hown4 hgrow4 _))
          have v4 : Below wr.heap.size wr (wr.alloc (.cells #[uv x] 22)) := (Below.refl _ _).alloc (Nat.le_refl _) _
          have B4 := below_own (HB.out.trans (v4.mono (by omega))) (HR.out.alloc _) hgrow4 (Nat.le_succ _) (by simp; omega)
          have M4 : Hid (w4.ownsMap Tryz.prog 22 (plainElem (H := Unit) Tryz.prog 4) w.heap.size (j + 1) (setD acc)) := Lib.hid (((hown.out.alloc _).kept hgrow4 (fun e => by have h9 := ((HR.out.alloc (.cells #[uv x] 22)).lt w.heap.size e.symm).1; omega)).mono (Nat.le_succ _))
          have H4 := Lib.hid hown4
          have hs4 := hgrow4.size
          rw [World.size_alloc] at hs4
          clear hown4 hgrow4
          go_wp2_with fail
          go_roundw
          case rel => exact ⟨j + 1, A4, c4, by omega, by go_num, by rw [HS2.out]; simp, by rw [HS2.out]; exact M4, by rw [HS2.out]; simpa using H4.out, B4, by omega⟩
          case measure => simp [intOf]; omega
        · have HN : Hid ((false || decide (off ∈ acc)) = false) := by unfold Hid; rw [decide_eq_false hmem]; rfl
          have HCC : Hid (∀ cc : Bool, (setD acc).atKey (k32 off) (.lit (.bool false)) = .lit (.bool cc) → cc = false) := Lib.hid (fun cc e => by
            rw [HAt.out, decide_eq_false hmem] at e
            simp only [DataW.lit.injEq, Lit.bool.injEq] at e
            exact e.symm)
          clear HAt hmem
          by_cases h31 : off.toNat < 2147483648
          · have HS2 : Hid (dvd cum (came.take (j + 1)) = (acc ++ [off], dups)) := by unfold Hid; rw [HS.out, HN.out, if_neg (by simp), if_pos h31]
            have h31i : (off.toNat : Int) < 2147483648 := by omega
            have HV : Hid ((plainElem (H := Unit) Tryz.prog 4) (.bool true) = some (.lit (.bool true), [])) := plainElem_bool Tryz.underlying4 true
            clear HS HN h31
            go_wp2_with (first | (at_lookup; refine wpList_lookup_own_bool wr (by rfl) _ _ 119 rfl 22 4 law Tryz.underlying119 Tryz.underlying4 hzb w.heap.size j _ rfl hown.out _ (k32 off) rfl (k32_key off) ?_; intro cc hat; obtain rfl := HCC.out cc hat) | (at_mapUpdate; refine wpList_mapUpdate_own _ rfl _ _ _ 119 rfl 22 4 law Tryz.underlying119 _ w.heap.size j _ rfl hown.out (by unfold maxLen; omega) _ _ (k32 off) rfl rfl (k32_key off) (.lit (.bool true)) [] HV.out ?_; intro w4 hown4 hgrow4))
            have B4 : Below w.heap.size w w4 := HB.out.grown hgrow4 (by omega) (fun q e => by cases e; exact Nat.le_refl _)
            have M4 : Hid (w4.ownsMap Tryz.prog 22 (plainElem (H := Unit) Tryz.prog 4) w.heap.size (j + 1) (setD (acc ++ [off]))) := by unfold Hid; rw [setD_snoc]; exact hown4
            have O4 : w4.ownsRow (w.heap.size + 1) 22 1 (.slice Al dups.length cl) dups.length (dups.map uv) := HR.out.kept hgrow4 (.inr (fun e => by have h9 := (HR.out.lt w.heap.size e).1; omega))
            have hs4 := hgrow4.size
            clear hown4 hgrow4
            go_wp2_with fail
            go_roundw
            case rel => exact ⟨j + 1, Al, cl, by omega, by go_num, by rw [HS2.out], by rw [HS2.out]; exact M4, by rw [HS2.out]; exact O4, B4, by omega⟩
            case measure => simp [intOf]; omega
          · have HS2 : Hid (dvd cum (came.take (j + 1)) = (acc, dups)) := by unfold Hid; rw [HS.out, HN.out, if_neg (by simp), if_neg h31]
            have h31i : decide ((off.toNat : Int) < 2147483648) = false := by rw [decide_eq_false_iff_not]; omega
            clear HS HN h31
            go_wp2_with (first | (at_lookup; refine wpList_lookup_own_bool wr (by rfl) _ _ 119 rfl 22 4 law Tryz.underlying119 Tryz.underlying4 hzb w.heap.size j _ rfl hown.out _ (k32 off) rfl (k32_key off) ?_; intro cc hat; obtain rfl := HCC.out cc hat) | fail)
            go_roundw
            case rel => exact ⟨j + 1, Al, cl, by omega, by go_num, by rw [HS2.out], by rw [HS2.out]; exact hown.out.mono (Nat.le_succ _), by rw [HS2.out]; exact HR.out, HB.out, hsz⟩
            case measure => simp [intOf]; omega
    · obtain rfl : j = came.length := by omega
      rw [List.take_length] at *
      have hi1 : ¬ (came.length : Int) < (came.length : Int) := by omega
      have M4 := hown.out
      clear HL HUp hown
      go_wp2_with fail
      go_ret2
      exact ⟨Al, cl, rfl, M4, hrow, hbel⟩
end Go.Proofs.YtabljmiiekpgiaaGreatDoor








namespace Go.Proofs.YtabljmiiekpgiaaGreatDoor
open Go.RowKit Go.Maps Go.Shelf

set_option linter.unusedSimpArgs false
theorem setD_has (acc : List UInt32) (x : UInt32) : has (setD acc) (k32 x) = decide (x ∈ acc) := by
  unfold setD
  rw [has_setOf _ _ _ (fun y hy => by obtain ⟨z, _, rfl⟩ := List.mem_map.1 hy; exact k32_lit z)]
  rw [List.any_map, Bool.eq_iff_iff, List.any_eq_true, decide_eq_true_eq]
  constructor
  · rintro ⟨y, hy, e⟩
    have : k32 y = k32 x := WideAt.sameKey_eq e
    rw [← k32_inj this]; exact hy
  · intro h
    exact ⟨x, h, WideAt.sameKey_self (k32_lit x)⟩
/-- what has come of the keys -/
def InvK (acc : List UInt32) (left : Lit → Bool) (ss : List UInt32) : Prop := ss.Nodup ∧ ∀ x, x ∈ ss ↔ (x ∈ acc ∧ left (k32 x) = false)
theorem InvK.start (acc : List UInt32) : InvK acc (has (setD acc)) [] := ⟨List.nodup_nil, fun x => by by_cases h : x ∈ acc <;> simp [setD_has, h]⟩
theorem InvK.step {acc ss : List UInt32} {left : Lit → Bool} (h : InvK acc left ss) {x : UInt32} {y : DataW Unit} (hlk : left (k32 x) = true) (hat : ∀ zd, (setD acc).atKey (k32 x) zd = y) :
    InvK acc (fun z => left z && !z.sameKey (k32 x)) (ss ++ [x]) := by
  have hhas : x ∈ acc := by have := has_true_of_atKey hat; rw [setD_has] at this; simpa using this
  have hnew : x ∉ ss := fun hx => by have := ((h.2 x).1 hx).2; rw [hlk] at this; cases this
  refine ⟨List.nodup_append.2 ⟨h.1, by simp, fun a ha b hb => by simp at hb; subst hb; exact fun e => hnew (e ▸ ha)⟩, fun y => ?_⟩
  by_cases hy : y = x
  · subst hy; simp [hhas, WideAt.sameKey_self (k32_lit y)]
  · have hs : (k32 y).sameKey (k32 x) = false := by
      cases hc : (k32 y).sameKey (k32 x) with
      | false => rfl
      | true => exact absurd (k32_inj (WideAt.sameKey_eq hc)) hy
    simp only [List.mem_append, List.mem_singleton, hy, or_false, hs, Bool.not_false, Bool.and_true]
    exact h.2 y
theorem nodup_len : ∀ {ss acc : List UInt32}, ss.Nodup → (∀ x ∈ ss, x ∈ acc) → ss.length ≤ acc.length
  | [], _, _, _ => Nat.zero_le _
  | x :: ss, acc, hn, h => by
    have hx := h x (List.mem_cons_self ..)
    have h2 := List.nodup_cons.1 hn
    have := nodup_len (acc := acc.erase x) h2.2 (fun y hy => (List.mem_erase_of_ne (fun (e : y = x) => h2.1 (by rw [← e]; exact hy))).2 (h y (List.mem_cons_of_mem _ hy)))
    have hl := List.length_erase_of_mem hx
    have hp : 0 < acc.length := List.length_pos_of_mem hx
    simp only [List.length_cons]
    omega
theorem InvK.lt {acc ss : List UInt32} {left : Lit → Bool} (h : InvK acc left ss) {x : UInt32} {y : DataW Unit} (hlk : left (k32 x) = true) (hat : ∀ zd, (setD acc).atKey (k32 x) zd = y) : ss.length < acc.length := by
  have h2 := h.step hlk hat
  have := nodup_len h2.1 (fun z hz => ((h2.2 z).1 hz).1)
  simp at this
  omega
theorem InvK.perm {acc ss : List UInt32} {left : Lit → Bool} (h : InvK acc left ss) (hn : acc.Nodup) (hl : ∀ kl, left kl = false) : ss.Perm acc :=
  List.perm_iff_count.2 fun a => by
    rw [h.1.count, hn.count]
    have := h.2 a
    rw [hl] at this
    simp only [and_true] at this
    simp only [this]
theorem key_u32 {key : Value} {kl : Lit} (h : keyOf Tryz.prog 22 key = some kl) : ∃ x, key = uv x := by
  obtain ⟨z, rfl, rfl, hw⟩ := Maps.keyOf_int_inv Tryz.underlying22 h
  simp only [Lit.wf, Bool.and_eq_true, decide_eq_true_eq] at hw
  have h1 : IntKind.u32.min = 0 := rfl
  have h2 : IntKind.u32.max = 4294967295 := rfl
  rw [h1, h2] at hw
  refine ⟨UInt32.ofNat z.toNat, ?_⟩
  have : (UInt32.ofNat z.toNat).toNat = z.toNat := by rw [UInt32.toNat_ofNat']; omega
  have e : ((UInt32.ofNat z.toNat).toNat : Int) = z := by rw [this]; omega
  unfold uv
  rw [e]
/-- a map's block stays as it is -/
def KpM (b : Nat) (A B : World) : Prop := B.heap[b]? = A.heap[b]?
def encU (x : UInt32) : Array Value := #[uv x]

theorem keys32_in (n : Nat) (b : Option Nat) (w : World) :
    CallsIn Fence.wide n Tryz.prog 113 #[.map b] w fun e w' => e = .returned (.func (.func 138) #[] #[.pointer (some ⟨w.heap.size, 0, none⟩)]) ∧
      w' = w.alloc (.cells #[.map b] 119) := by
  refine callsIn_of_wp Tryz.func113 rfl trivial ?_ rfl
  simp only [Tryz.ntmps113, List.size_toArray, List.length_cons, List.length_nil, Nat.reduceAdd, Nat.reduceSub, Array.replicate_succ, Array.replicate_zero, List.push_toArray, List.append_toArray, List.nil_append, List.cons_append]
  gi_wp2_with fail
  go_ret
  exact ⟨rfl, rfl⟩
theorem keys1_32_in (n : Nat) (hn : 1 ≤ n) (l Bm b nn : Nat) (acc : List UInt32) (hnd : acc.Nodup) (J : List UInt32 → World → Prop) (Jx : List UInt32 × UInt32 → World → Prop) (W : World) (hJ : OwnFrom W.heap.size J)
    (hY : ∀ pre x W1, J pre W1 → pre.length < acc.length → YieldAt Fence.wide (n - 1) Tryz.prog l (encU x) W1 fun e W' => ((e = .returned (.bool true) ∧ J (pre ++ [x]) W' ∧ KpM b W1 W') ∨ (e = .returned (.bool false) ∧ Jx (pre, x) W')) ∧ KeepsFrom W.heap.size W1 W')
    (hm : W.cell? ⟨Bm, 0, none⟩ = some (.map (some b))) (hown : W.ownsMap Tryz.prog 22 (plainElem (H := Unit) Tryz.prog 4) b nn (setD acc)) (h0 : J [] W) :
    CallsIn Fence.wide n Tryz.prog 138 #[.func (.yield l) #[] #[], .pointer (some ⟨Bm, 0, none⟩)] W fun e W' => (∃ v, e = .returned v) ∧ ((∃ xs, xs.Perm acc ∧ J xs W') ∨ ∃ p, (fun _ : List UInt32 × UInt32 => True) p ∧ Jx p W') := by
  have law : Keyed Tryz.prog 22 := int_keyed Tryz.underlying22
  refine callsIn_of_wp Tryz.func138 rfl trivial ?_ rfl
  simp only [Tryz.ntmps138, List.size_toArray, List.length_cons, List.length_nil, Nat.reduceAdd, Nat.reduceSub, Array.replicate_succ, Array.replicate_zero, List.push_toArray, List.append_toArray, List.nil_append, List.cons_append]
  gi_wp2_with (first
    | (gi_at_range; refine wpListIn_range_own _ rfl _ 119 rfl 22 4 law Tryz.underlying119 _ b nn _ rfl hown ?_; intro w0 hrg0 hg0 hs0)
    | fail)
  go_frame
  gi_loopw [3] (fun _ wr => ∃ (left : Lit → Bool) (cnt : Nat) (ss : List UInt32), Hid (wr.ranges Tryz.prog 22 (plainElem (H := Unit) Tryz.prog 4) b W.heap.size nn (setD acc) left cnt) ∧ InvK acc left ss ∧ J ss wr)
    (fun _ wr => wr.rangeLeft b W.heap.size)
  case atStart => exact ⟨_, _, [], hrg0, InvK.start acc, hJ [] W w0 none h0 hg0 (fun r e => by cases e)⟩
  case round =>
    obtain ⟨left, cnt, ss, hrg, hC, hJs⟩ := hrel
    gi_wp2_with (first
      | (gi_at_next; refine wpListIn_next_ranges _ rfl _ rfl 22 law (plainElem (H := Unit) Tryz.prog 4) uv id (fun key kl hk => ?_) (fun v _ _ => ⟨v, rfl⟩) b W.heap.size nn _ _ _ rfl hrg.out ?_ ?_)
      | fail)
    · exact key_u32 hk
    · intro hc0 hl0
      gi_wp2_with fail
      go_end0
      exact ⟨⟨_, rfl⟩, .inl ⟨ss, hC.perm hnd hl0, hJs⟩⟩
    · intro x c kl yd yp w2 cnt2 hkey hlk hv hat hrg2 hlt hg2 hs2 hen
      have hkl : kl = k32 x := by rw [k32_key] at hkey; exact (Option.some.inj hkey).symm
      subst hkl
      have hrw : wr.rangeLeft b W.heap.size = cnt := hrg.out.left_eq
      have hJ2 : J ss w2 := hJ ss wr w2 (some W.heap.size) hJs hg2 (fun r e => by cases e; obtain ⟨es, clock, since, seen, c0, _, _, _, _, hr, _⟩ := hrg.out; exact ⟨Nat.le_refl _, _, hr, rfl⟩)
      have hlen := hC.lt hlk hat
      have hC2 := hC.step hlk hat
      have hY1 := hY ss x w2 hJ2 hlen
      unfold encU at hY1
      obtain ⟨fn, tmps, assign, body, hy, hR⟩ := hY1
      have HR2 := Lib.hid hrg2
      clear hs2 hrg2 hrg0 hat hlk hkey hv hJ2 hlen hC hY hg2
      gi_wp2_with fail
      refine hR.mono ?_
      rintro e W3 ⟨(⟨rfl, hJ3, hk3⟩ | ⟨rfl, hx3⟩), hkf⟩
      · have hrg3 : W3.ranges Tryz.prog 22 (plainElem (H := Unit) Tryz.prog 4) b W.heap.size nn (setD acc) (fun z => left z && !z.sameKey (k32 x)) cnt2 := by
          obtain ⟨es, clock, since, seen, c0, hb1, F, hs, hD, hr, rest⟩ := HR2.out
          exact ⟨es, clock, since, seen, c0, hk3.trans hb1, F, hs, hD, hkf.same _ _ (Nat.le_refl _) hr rfl, rest⟩
        have hl3 := hrg3.left_eq
        have HR3 := Lib.hid hrg3
        clear hrg3
        gi_wp2_with fail
        go_roundw
        case rel => exact ⟨_, cnt2, ss ++ [x], HR3, hC2, hJ3⟩
        case measure => rw [hl3, hrw]; exact hlt
      · gi_wp2_with fail
        refine bodyPost_ret (results_none rfl _ _ _) rfl ?_
        exact ⟨⟨_, rfl⟩, .inr ⟨(ss, x), trivial, hx3⟩⟩
end Go.Proofs.YtabljmiiekpgiaaGreatDoor





namespace Go.Proofs.YtabljmiiekpgiaaGreatDoor
open Go.RowKit Go.Maps Go.Shelf

attribute [local go_sem] Oper.semAt_some
set_option linter.unusedSimpArgs false
/-- what has come lies in a row of the call's own, its slice in the box Bs -/
def ApI (w : World) (Bs : Nat) (ss : List UInt32) (W : World) : Prop := (∃ v, Boxed W Bs 24 v ∧ W.ownsRow Bs 22 1 v ss.length (ss.map uv)) ∧ Below Bs w W ∧ Bs + 1 ≤ W.heap.size
theorem ApI.own (w : World) (Bs B : Nat) (hB : Bs < B) : OwnFrom B (ApI w Bs) := by
  rintro s X Y row ⟨⟨v, h1, h2⟩, h3, h4⟩ hg hr
  have hne : ∀ (i : Nat) (cs : Array Value) (t : TypeId) (z : Nat × Nat), X.heap[i]? = some (.cells cs t z) → some i ≠ row := by
    intro i cs t z hi e
    obtain ⟨_, o, ho, hoc⟩ := hr i e.symm
    rw [hi] at ho
    cases ho
    cases hoc
  refine ⟨⟨v, h1.kept hg (hne _ _ _ _ h1), h2.kept hg ?_⟩, h3.grown hg (by omega) (fun k e => by have := (hr k e).1; omega), Nat.le_trans h4 hg.size⟩
  rcases h2.2 with ⟨rfl, _⟩ | ⟨g, cap, cur, rfl, _, hh, _⟩
  · exact .inl rfl
  · exact .inr (hne g _ _ _ hh)
set_option maxRecDepth 100000 in
set_option maxHeartbeats 4000000 in
theorem aseq_in (Bm b nn : Nat) (acc : List UInt32) (hnd : acc.Nodup) (hl : acc.length ≤ 100000) (w : World) (hBm : Bm < w.heap.size)
    (hm : w.cell? ⟨Bm, 0, none⟩ = some (.map (some b))) (hown : w.ownsMap Tryz.prog 22 (plainElem (H := Unit) Tryz.prog 4) b nn (setD acc)) :
    CallsIn Fence.wide 5 Tryz.prog 157 #[.slice none 0 0, .func (.func 138) #[] #[.pointer (some ⟨Bm, 0, none⟩)]] w fun e w' =>
      ∃ (A : Option Addr) (c : Nat) (ss : List UInt32), e = .returned (.slice A ss.length c) ∧ ss.Perm acc ∧ w'.ownsRow w.heap.size 22 1 (.slice A ss.length c) ss.length (ss.map uv) ∧ Below w.heap.size w w' := by
  have hbl := hown.lt
  have law : Keyed Tryz.prog 22 := int_keyed Tryz.underlying22
  refine callsIn_of_wp_marks Tryz.func157 rfl trivial ?_ rfl
  simp only [Tryz.ntmps157, List.size_toArray, List.length_cons, List.length_nil, Nat.reduceAdd, Nat.reduceSub, Array.replicate_succ, Array.replicate_zero, List.push_toArray, List.append_toArray, List.nil_append, List.cons_append]
  gi_wp2_with fail
  have bO := Boxed.new w 24 (.slice none 0 0)
  have hB0 : Below w.heap.size w (w.alloc (.cells #[.slice none 0 0] 24)) := (Below.refl _ w).alloc (Nat.le_refl _) _
  have hs0 : (w.alloc (.cells #[.slice none 0 0] 24)).heap.size = w.heap.size + 1 := World.size_alloc _ _
  have hI0 : ApI w w.heap.size [] (w.alloc (.cells #[.slice none 0 0] 24)) := ⟨⟨_, bO, ⟨rfl, .inl ⟨rfl, rfl⟩⟩⟩, hB0, by omega⟩
  generalize w.alloc (.cells #[.slice none 0 0] 24) = W0 at *
  refine each_leave .ret (F := Fence.wide) (n := 5) (P := Tryz.prog) rfl (by omega) (gf := 138) (lb := #[.pointer (some ⟨Bm, 0, none⟩)]) rfl trivial (enters_of Tryz.func138 (by kernel_rfl) rfl)
    (encs := encU) (Kp := KpM b) (G := fun _ _ => False) (Row := fun _ _ _ => True) (Fin := fun xs => xs.Perm acc) (FinX := fun _ => True) (N := acc.length) ?hseq (fun _ => rfl)
    (fun h1 h2 => h2.trans h1) ?hKb (ApI w w.heap.size) (ApI.own w w.heap.size W0.heap.size (by omega)) (fun _ _ => False) (fun _ _ _ _ h _ _ => h) hI0 (fun _ _ _ _ h => h.elim)
    (fun pre x a' V => a' = { tmps := #[.slice none 0 0, .func (.func 138) #[] #[.pointer (some ⟨Bm, 0, none⟩)], .pointer (some ⟨w.heap.size, 0, none⟩), undef, .slice none 0 0, uv x, .func (.func 138) #[] #[.pointer (some ⟨Bm, 0, none⟩)], uv x, undef, undef, undef, undef, undef], defers := [] } ∧ ApI w w.heap.size pre V) ?hAx
    ?assign ?body ?done ?stop
  case hseq =>
    intro l J Jx W hW hJ _ _ hY h0
    have hown' : W.ownsMap Tryz.prog 22 (plainElem (H := Unit) Tryz.prog 4) b nn (setD acc) := by
      obtain ⟨es, clock, hb, Ft, hs, hD⟩ := hown
      exact ⟨es, clock, (hW.block b (by omega)).trans ((hB0.block b hbl).trans hb), Ft, hs, hD⟩
    exact keys1_32_in 4 (by omega) l Bm b nn acc hnd J Jx W hJ (fun pre x W1 h1 h2 => hY pre x W1 h1 h2 trivial) (((hB0.trans (hW.mono (by omega))).cell (p := ⟨Bm, 0, none⟩) hBm).trans hm) hown' h0
  case hKb =>
    intro V l o o' hl ho hoc
    exact World.putObj_heap_other (by omega)
  case hAx =>
    rintro pre x a' s X Y row ⟨ha, hi⟩ hg hr
    exact ⟨ha, ApI.own w w.heap.size W0.heap.size (by omega) _ _ _ _ hi hg hr⟩
  case assign =>
    intro l pre x V K hi _ hK
    simp only [encU]
    gi_wp2
    exact hK _ _ (KeepsFrom.refl _ _) rfl ⟨rfl, hi⟩
  case body =>
    rintro l pre x a' V ⟨rfl, ⟨v, hv, hrow⟩, hB, hsz⟩ hlt
    have hc := hv.cell
    gi_wp2_with (gi_at_builtin; refine wpListIn_append_lies _ rfl (.tmp 8) (.tmp 10) 24 rfl w.heap.size 22 _ 4 Tryz.underlying24 u32infoE rfl _ _ _ rfl (hrow.alloc _) _ _ 1 1 _ rfl rfl (Lies.new1 _ _ _) (by intro u hu; rw [List.mem_singleton.1 hu]; rfl) (by omega) (by unfold maxLen; omega) (by simp; omega) ?_; intro A' c' w' hown' hgrow' _; obtain ⟨hv1, hv2, hr2, hko, hb2⟩ := hv.appended (by decide) hrow (by omega) (Nat.le_refl _) hown' hgrow'; have hc1 := hv1.cell; have hf1 := hv1.frozen)
    have hbs := hb2.size
    exact ⟨hko.from _, hb2.block b hbl, ⟨⟨_, hv2, by simpa using hr2⟩, hB.trans hb2, Nat.le_trans hsz hbs⟩⟩
  case done =>
    rintro D ss W hD hp ⟨⟨v, hv, hrow⟩, hB, _⟩ hK
    have hc := hv.cell
    obtain ⟨A', c', rfl⟩ : ∃ A' c', v = .slice A' ss.length c' := by
      rcases hrow.2 with ⟨rfl, h0⟩ | ⟨g, cap, cur, rfl, _⟩
      · exact ⟨none, 0, by rw [h0]⟩
      · exact ⟨_, _, rfl⟩
    clear hv
    gi_wp2
    refine ⟨by simp, .inl ⟨_, _, rfl, run_takeDeferred hK, ?_⟩⟩
    exact ⟨_, results_tmp rfl _ _ _, A', c', ss, rfl, hp, ownsRow_putObj hrow _ hK rfl, hB.trans (belowK_b (w := w) (Nat.le_refl _) W D _ _ (by omega) hK rfl rfl)⟩
  case stop =>
    intro D p W _ _ h _
    exact h.elim
set_option maxHeartbeats 4000000 in
theorem coll_in (Bm b nn : Nat) (acc : List UInt32) (hnd : acc.Nodup) (hl : acc.length ≤ 100000) (w : World) (hBm : Bm < w.heap.size)
    (hm : w.cell? ⟨Bm, 0, none⟩ = some (.map (some b))) (hown : w.ownsMap Tryz.prog 22 (plainElem (H := Unit) Tryz.prog 4) b nn (setD acc)) :
    CallsIn Fence.wide 6 Tryz.prog 136 #[.func (.func 138) #[] #[.pointer (some ⟨Bm, 0, none⟩)]] w fun e w' =>
      ∃ (A : Option Addr) (c : Nat) (ss : List UInt32), e = .returned (.slice A ss.length c) ∧ ss.Perm acc ∧ w'.ownsRow w.heap.size 22 1 (.slice A ss.length c) ss.length (ss.map uv) ∧ Below w.heap.size w w' := by
  have hA := aseq_in Bm b nn acc hnd hl w hBm hm hown
  refine callsIn_of_wp Tryz.func136 rfl trivial ?_ rfl
  simp only [Tryz.ntmps136, List.size_toArray, List.length_cons, List.length_nil, Nat.reduceAdd, Nat.reduceSub, Array.replicate_succ, Array.replicate_zero, List.push_toArray, List.append_toArray, List.nil_append, List.cons_append]
  gi_wp2_with (refine ⟨trivial, ?_⟩; gi_at_call 157; refine hA.mono ?_; rintro e w' ⟨A, c, ss, rfl, h1, h2, h3⟩)
  go_ret
  exact ⟨A, c, ss, rfl, h1, h2, h3⟩
end Go.Proofs.YtabljmiiekpgiaaGreatDoor


