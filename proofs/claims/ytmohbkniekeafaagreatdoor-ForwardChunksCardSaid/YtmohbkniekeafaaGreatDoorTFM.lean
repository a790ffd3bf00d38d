/- Layer 16: the keys of Merge's map: arrays of two numbers. -/
/- Layer 16: the values of Merge's map; a store into it at an operation that stands anywhere. -/
/- Layer 16: what Merge's map holds: the last skip of each place (mathematics; no program). -/
/- Layer 16: the values of Merge's map, as an iterator (maps.Values): each once, in some order. -/
/- Layer 16: slices.AppendSeq and Collect of the values of Merge's map. -/
import Derived.Test.YtmohbkniekeafaaGreatDoorTFX
import Derived.Maps.OwnSet
import Derived.MapViews
import Derived.DeepKeys4
import Derived.Maps.OwnOps
import Derived.Test.YtmohbkniekeafaaGreatDoorTSKE
import Derived.Test.YtmohbkniekeafaaGreatDoorTFG
import Derived.Test.YtmohbkniekeafaaGreatDoorTA
import Derived.Test.YtmohbkniekeafaaGreatDoorTNW
import Derived.RangeFuncBox




namespace Go.Proofs.YtmohbkniekeafaaGreatDoor
open Go.RowKit Go.WideMaps Go.ChangeShapes Go.WideShapes Go.ChangeAt

theorem laid16 : laidOutB Tryz.prog = true := by kernel_rfl
theorem row2u : (140 : TypeId) < Tryz.prog.types.size := of_decide_eq_true (by kernel_rfl)
theorem cells2u : Tryz.prog.cellsOf 140 = 2 := by kernel_rfl
theorem deep2u : Tryz.prog.keyTypeAt (Tryz.prog.types.size + 1) 140 = true := by kernel_rfl
theorem wide2u : (match Tryz.prog.underlying 140 with | some (.array _ _) | some (.struct _) => true | _ => false) = true := by rw [Tryz.underlying140]
set_option maxRecDepth 100000 in
theorem law2u : Maps.Keyed Tryz.prog 140 := Maps.Keyed.of_law (deep_law_laid laid16 (m := 2) (by omega) row2u (by kernel_rfl) wide2u)
set_option maxRecDepth 100000 in
theorem formed2u {c0 c1 : Value} : (Value.agg #[c0, c1]).formed Tryz.prog 140 = true := by simp [Value.formed, Tryz.underlying140, cells2u]
def dP (a b : UInt16) : DataW Unit := .agg [.lit (.int .u16 (a.toNat : Int)), .lit (.int .u16 (b.toNat : Int))]
theorem wf16 (a : UInt16) : (Lit.int .u16 (a.toNat : Int)).wf = true := by
  have h := a.toNat_lt
  have h1 : IntKind.u16.min = 0 := rfl
  have h2 : IntKind.u16.max = 65535 := rfl
  simp only [Lit.wf, Bool.and_eq_true, decide_eq_true_eq]
  omega
set_option linter.unusedSimpArgs false in
set_option maxRecDepth 100000 in
theorem trod2u (enc : TypeId × Value → Unit) (a b : UInt16) (w : World) : DataW.Trod enc Tryz.prog w 0 (fun _ => true) true 140 (.agg #[hv a, hv b]) (dP a b) [] := by
  refine ⟨3, ?_⟩
  show DataW.trod enc Tryz.prog w 0 (fun _ => true) true 3 140 [hv a, hv b] = some (dP a b, [])
  have e : Tryz.prog.cellsOf 37 = 1 := by kernel_rfl
  simp [DataW.trod, Tryz.underlying140, Tryz.underlying37, e, cells2u, wf16, List.range, List.range.loop, hv, dP]
/-- what a place reads as, as a key -/
def kP (a b : UInt16) : Lit := (dP a b).asKey
set_option maxRecDepth 100000 in
theorem key2u (a b : UInt16) (w : World) : keyOf Tryz.prog 140 (.agg #[hv a, hv b]) = some (kP a b) := (keyOf_asKey deep2u wide2u formed2u (trod2u (fun _ => ()) a b w)).1
set_option maxRecDepth 100000 in
theorem kP_inj {a b a' b' : UInt16} (w : World) (h : kP a b = kP a' b') : a = a' ∧ b = b' := by
  have h1 := law2u.inj (key2u a b w) (by rw [h]; exact key2u a' b' w)
  simp only [Value.agg.injEq, Array.mk.injEq, List.cons.injEq, hv, Value.int.injEq, true_and, and_true] at h1
  exact ⟨UInt16.toNat_inj.1 (by omega), UInt16.toNat_inj.1 (by omega)⟩
end Go.Proofs.YtmohbkniekeafaaGreatDoor




namespace Go.Proofs.YtmohbkniekeafaaGreatDoor
open Go.RowKit Go.WideMaps Go.Maps

/-- what a skip reads as -/
def dF (s : Fs) : DataW Unit := .agg [.lit (.int .u16 (s.st.toNat : Int)), .lit (.bool s.un), .lit (.int .u32 (s.sq.toNat : Int))]
/-- how an element of the map reads -/
def fsR : Value → Option (DataW Unit × List MemPlace)
  | .agg xs => match xs.toList with
    | [.int .u16 a, .bool u, .int .u32 q] => some (.agg [.lit (.int .u16 a), .lit (.bool u), .lit (.int .u32 q)], [])
    | _ => none
  | _ => none
theorem fsR_eq (s : Fs) : fsR (fsV s) = some (dF s, []) := rfl
theorem wp_mapUpdate16 {P : Program} (w : World) {o : Oper} {a : Act} {K' : Act → World → Prop} {Q : Exit → Act → World → Prop}
    (m x v : Operand) (t : TypeId) (hop : o.op = Op.mapUpdate t m x v)
    (k e : TypeId) (K : Keyed P k) (ht : P.underlying t = some (.map k e)) (R : Value → Option (DataW Unit × List MemPlace)) (b n : Nat) (D : DataW Unit)
    (hm : a.eval m = .map (some b)) (hown : w.ownsMap P k R b n D) (hn : n < maxLen) (key val : Value) (kl : Lit) (hx : a.eval x = key) (hv : a.eval v = val) (hkey : keyOf P k key = some kl)
    (d : DataW Unit) (ps : List MemPlace) (hval : R val = some (d, ps))
    (hK : ∀ w', w'.ownsMap P k R b (n + 1) (D.put kl d) → w.grownBy w' (some b) → K' (a.put o.dst undef) w') : o.wp P a w K' Q := by
  obtain ⟨w', hrun, r1, r2⟩ := hown.update K ht hn hkey hval
  unfold Oper.wp execOp
  simp only [hop, hm, hx, hv, hrun, Sem.run_bind, Sem.run_pure, Result.andThen_ok]
  exact hK w' r1 r2
end Go.Proofs.YtmohbkniekeafaaGreatDoor




namespace Go.Proofs.YtmohbkniekeafaaGreatDoor
open Go.RowKit Go.Maps Go.WideMaps

/-- the map of the last skip of each place -/
def mDat (l : List Fs) : DataW Unit := l.foldl (fun D s => D.put (kP s.st (unN s.un)) (dF s)) (.map [])
theorem mDat_snoc (l : List Fs) (s : Fs) : mDat (l ++ [s]) = (mDat l).put (kP s.st (unN s.un)) (dF s) := by unfold mDat; rw [List.foldl_append]; rfl
/-- the same place -/
def smP (s t : Fs) : Bool := s.st == t.st && s.un == t.un
theorem unN_inj {a b : Bool} (h : unN a = unN b) : a = b := by cases a <;> cases b <;> first | rfl | (exact absurd h (by decide))
theorem smP_key (w : World) (s t : Fs) : smP s t = true ↔ kP s.st (unN s.un) = kP t.st (unN t.un) := by
  unfold smP
  rw [Bool.and_eq_true, beq_iff_eq, beq_iff_eq]
  constructor
  · rintro ⟨h1, h2⟩; rw [h1, h2]
  · intro h
    obtain ⟨h1, h2⟩ := kP_inj w h
    exact ⟨h1, unN_inj h2⟩
/-- the last skip of a place -/
def lastP (l : List Fs) (t : Fs) : Option Fs := l.reverse.find? (fun s => smP s t)
theorem lastP_snoc (l : List Fs) (s t : Fs) : lastP (l ++ [s]) t = if smP s t = true then some s else lastP l t := by
  unfold lastP
  rw [List.reverse_append, List.reverse_cons, List.reverse_nil, List.nil_append, List.singleton_append, List.find?_cons]
  cases smP s t <;> rfl
theorem kP_lit (a b : UInt16) : WideAt.IsKeyLit (kP a b) := trivial
theorem mDat_map (l : List Fs) : IsMap (mDat l) := by
  have : ∀ (l : List Fs) (m : DataW Unit), IsMap m → IsMap (l.foldl (fun D s => D.put (kP s.st (unN s.un)) (dF s)) m) := by
    intro l
    induction l with
    | nil => intro m h; exact h
    | cons x l ih => intro m h; exact ih _ (h.put _ _)
  exact this l _ isMap_empty
theorem snoc_ind {P : List Fs → Prop} (h0 : P []) (hs : ∀ l s, P l → P (l ++ [s])) : ∀ l, P l := by
  intro l
  have h : ∀ n, n ≤ l.length → P (l.take n) := by
    intro n
    induction n with
    | zero => intro _; rw [List.take_zero]; exact h0
    | succ n ih =>
      intro hn
      have e := List.getElem?_eq_getElem (l := l) (i := n) (by omega)
      rw [take_some e]
      exact hs _ _ (ih (by omega))
  have := h l.length (Nat.le_refl _)
  rwa [List.take_length] at this
theorem mDat_at (w : World) (t : Fs) (zd : DataW Unit) : ∀ l : List Fs, (mDat l).atKey (kP t.st (unN t.un)) zd = match lastP l t with | some s => dF s | none => zd :=
  snoc_ind rfl (fun l s ih => by
    rw [mDat_snoc, lastP_snoc]
    by_cases h : smP s t = true
    · rw [if_pos h, (smP_key w s t).1 h, atKey_put_same (mDat_map l) (kP_lit _ _)]
    · rw [if_neg h, atKey_put_other (fun e => h ((smP_key w s t).2 e.symm)), ih])
theorem mDat_has (w : World) (t : Fs) : ∀ l : List Fs, has (mDat l) (kP t.st (unN t.un)) = (lastP l t).isSome :=
  snoc_ind rfl (fun l s ih => by
    rw [mDat_snoc, lastP_snoc]
    by_cases h : smP s t = true
    · rw [if_pos h, (smP_key w s t).1 h, has_put_same (mDat_map l) (kP_lit _ _)]
      rfl
    · rw [if_neg h, has_put_other (fun e => h ((smP_key w s t).2 e.symm)), ih])
theorem has_key (kl : Lit) : ∀ l : List Fs, has (mDat l) kl = true → ∃ s ∈ l, kl = kP s.st (unN s.un) :=
  snoc_ind (fun h => by cases h) (fun l s ih h => by
    by_cases e : kl = kP s.st (unN s.un)
    · exact ⟨s, by simp, e⟩
    · rw [mDat_snoc, has_put_other e] at h
      obtain ⟨t, ht, e2⟩ := ih h
      exact ⟨t, List.mem_append_left _ ht, e2⟩)
theorem lastP_sm {l : List Fs} {s t : Fs} (h : lastP l t = some s) : smP s t = true := List.find?_some (p := fun s => smP s t) h
theorem lastP_mem {l : List Fs} {s t : Fs} (h : lastP l t = some s) : s ∈ l := List.mem_reverse.1 (List.mem_of_find?_eq_some h)
theorem smP_trans {a b : Fs} (h : smP a b = true) (c : Fs) : smP c a = smP c b := by
  unfold smP at h ⊢
  rw [Bool.and_eq_true, beq_iff_eq, beq_iff_eq] at h
  rw [h.1, h.2]
theorem lastP_congr {a b : Fs} (h : smP a b = true) (l : List Fs) : lastP l a = lastP l b := by
  unfold lastP
  congr 1
  funext s
  exact smP_trans h s
theorem lastP_self {l : List Fs} {s t : Fs} (h : lastP l t = some s) : lastP l s = some s := by rw [lastP_congr (lastP_sm h) l]; exact h
/-- what has come of the values -/
def InvV (l : List Fs) (left : Lit → Bool) (ss : List Fs) : Prop := ss.Nodup ∧ ∀ s, s ∈ ss ↔ (lastP l s = some s ∧ left (kP s.st (unN s.un)) = false)
theorem InvV.start (w : World) (l : List Fs) : InvV l (has (mDat l)) [] := ⟨List.nodup_nil, fun s => by
  rw [mDat_has w s l]
  constructor
  · intro h; cases h
  · rintro ⟨h1, h2⟩
    rw [h1] at h2
    cases h2⟩
theorem InvV.step (w : World) {l ss : List Fs} {left : Lit → Bool} (h : InvV l left ss) {s : Fs} (hs : lastP l s = some s) (hlk : left (kP s.st (unN s.un)) = true) :
    InvV l (fun z => left z && !z.sameKey (kP s.st (unN s.un))) (ss ++ [s]) := by
  have hnew : s ∉ ss := fun hx => by have := ((h.2 s).1 hx).2; rw [hlk] at this; cases this
  refine ⟨List.nodup_append.2 ⟨h.1, by simp, fun a ha b hb => by simp at hb; subst hb; exact fun e => hnew (e ▸ ha)⟩, fun y => ?_⟩
  by_cases hy : y = s
  · subst hy
    simp [hs, WideAt.sameKey_self (kP_lit _ _)]
  · simp only [List.mem_append, List.mem_singleton, hy, or_false]
    cases hc : (kP y.st (unN y.un)).sameKey (kP s.st (unN s.un)) with
    | false =>
      simp only [Bool.not_false, Bool.and_true]
      exact h.2 y
    | true =>
      have hsm := (smP_key w y s).2 (WideAt.sameKey_eq hc)
      have hl := lastP_congr hsm l
      constructor
      · intro hm
        have h1 := ((h.2 y).1 hm).1
        rw [hl, hs] at h1
        exact absurd (Option.some.inj h1).symm hy
      · rintro ⟨h1, _⟩
        rw [hl, hs] at h1
        exact absurd (Option.some.inj h1).symm hy
theorem InvV.all {l ss : List Fs} {left : Lit → Bool} (h : InvV l left ss) (hl : ∀ kl, left kl = false) : ss.Nodup ∧ ∀ s, s ∈ ss ↔ lastP l s = some s :=
  ⟨h.1, fun s => by rw [h.2 s, hl]; simp⟩
theorem fsR_inv {v : Value} {d : DataW Unit} {ps : List MemPlace} {s : Fs} (h : fsR v = some (d, ps)) (hd : d = dF s) : v = fsV s := by
  unfold fsR at h
  split at h
  · rename_i xs
    split at h
    · rename_i a u q heq
      simp only [Option.some.injEq, Prod.mk.injEq] at h
      obtain ⟨h1, _⟩ := h
      rw [hd] at h1
      simp only [dF, DataW.agg.injEq, List.cons.injEq, DataW.lit.injEq, Lit.int.injEq, Lit.bool.injEq, true_and, and_true] at h1
      obtain ⟨rfl, rfl, rfl⟩ := h1
      show Value.agg xs = .agg _
      congr 1
      exact Array.ext' heq
    · cases h
  · cases h
end Go.Proofs.YtmohbkniekeafaaGreatDoor




namespace Go.Proofs.YtmohbkniekeafaaGreatDoor
open Go.RowKit Go.Maps Go.Shelf

set_option linter.unusedSimpArgs false
def encF (s : Fs) : Array Value := #[fsV s]
/-- what has come: each place's last skip, once -/
def AllV (l ss : List Fs) : Prop := ss.Nodup ∧ ∀ s, s ∈ ss ↔ lastP l s = some s
theorem vals_in (n : Nat) (b : Option Nat) (w : World) :
    CallsIn Fence.wide n Tryz.prog 98 #[.map b] w fun e w' => e = .returned (.func (.func 142) #[] #[.pointer (some ⟨w.heap.size, 0, none⟩)]) ∧
      w' = w.alloc (.cells #[.map b] 139) := by
  refine callsIn_of_wp Tryz.func98 rfl trivial ?_ rfl
  simp only [Tryz.ntmps98, List.size_toArray, List.length_cons, List.length_nil, Nat.reduceAdd, Nat.reduceSub, Array.replicate_succ, Array.replicate_zero, List.push_toArray, List.append_toArray, List.nil_append, List.cons_append]
  gi_wp2_with fail
  go_ret
  exact ⟨rfl, rfl⟩
/-- an entry of the map: its key and its value are a skip's -/
theorem entryV (w : World) {l : List Fs} {kl : Lit} {c : Value} {y : DataW Unit × List MemPlace} (hv : fsR c = some y) (hat : ∀ zd, (mDat l).atKey kl zd = y.1) : ∃ s, c = fsV s ∧ kl = kP s.st (unN s.un) ∧ lastP l s = some s := by
  have hh : has (mDat l) kl = true := has_true_of_atKey hat
  obtain ⟨t, _, rfl⟩ := has_key kl l hh
  rw [mDat_has w t l] at hh
  obtain ⟨s, hs⟩ := Option.isSome_iff_exists.1 hh
  have h1 := hat y.1
  rw [mDat_at w t y.1 l, hs] at h1
  refine ⟨s, fsR_inv (d := y.1) (ps := y.2) hv h1.symm, ((smP_key w s t).1 (lastP_sm hs)).symm, lastP_self hs⟩
theorem InvV.lt (w : World) {l ss : List Fs} {left : Lit → Bool} (h : InvV l left ss) {s : Fs} (hs : lastP l s = some s) (hlk : left (kP s.st (unN s.un)) = true) : ss.length < l.length := by
  have h2 := h.step w hs hlk
  have h3 : ∀ x ∈ ss ++ [s], x ∈ l := fun x hx => lastP_mem ((h2.2 x).1 hx).1
  have h4 : (ss ++ [s]).length ≤ l.length := by
    have : ∀ (a b : List Fs), a.Nodup → (∀ x ∈ a, x ∈ b) → a.length ≤ b.length := by
      intro a
      induction a with
      | nil => intro b _ _; exact Nat.zero_le _
      | cons x a ih =>
        intro b hn hx
        obtain ⟨p, q, rfl⟩ := List.append_of_mem (hx x (by simp))
        have h5 := ih (p ++ q) (List.nodup_cons.1 hn).2 (fun y hy => by
          have := hx y (by simp [hy])
          have hne : y ≠ x := fun e => (List.nodup_cons.1 hn).1 (e ▸ hy)
          simp only [List.mem_append, List.mem_cons, hne, false_or] at this ⊢
          exact this)
        simp only [List.length_cons, List.length_append] at h5 ⊢
        omega
    exact this _ _ h2.1 h3
  simp at h4
  omega
set_option maxRecDepth 100000 in
set_option maxHeartbeats 4000000 in
theorem vals1_in (n : Nat) (hn : 1 ≤ n) (l0 Bm b nn : Nat) (l : List Fs) (J : List Fs → World → Prop) (Jx : List Fs × Fs → World → Prop) (W : World) (hJ : OwnFrom W.heap.size J)
    (hY : ∀ pre x W1, J pre W1 → pre.length < l.length → lastP l x = some x → YieldAt Fence.wide (n - 1) Tryz.prog l0 (encF x) W1 fun e W' => ((e = .returned (.bool true) ∧ J (pre ++ [x]) W' ∧ KpM b W1 W') ∨ (e = .returned (.bool false) ∧ Jx (pre, x) W')) ∧ KeepsFrom W.heap.size W1 W')
    (hm : W.cell? ⟨Bm, 0, none⟩ = some (.map (some b))) (hown : W.ownsMap Tryz.prog 140 fsR b nn (mDat l)) (h0 : J [] W) :
    CallsIn Fence.wide n Tryz.prog 142 #[.func (.yield l0) #[] #[], .pointer (some ⟨Bm, 0, none⟩)] W fun e W' => (∃ v, e = .returned v) ∧ ((∃ xs, AllV l xs ∧ J xs W') ∨ ∃ p, (fun _ : List Fs × Fs => True) p ∧ Jx p W') := by
  refine callsIn_of_wp Tryz.func142 rfl trivial ?_ rfl
  simp only [Tryz.ntmps142, List.size_toArray, List.length_cons, List.length_nil, Nat.reduceAdd, Nat.reduceSub, Array.replicate_succ, Array.replicate_zero, List.push_toArray, List.append_toArray, List.nil_append, List.cons_append]
  gi_wp2_with (first
    | (gi_at_range; refine wpListIn_range_own _ rfl _ 139 rfl 140 70 law2u Tryz.underlying139 _ b nn _ rfl hown ?_; intro w0 hrg0 hg0 hs0)
    | fail)
  go_frame
  gi_loopw [4] (fun _ wr => ∃ (left : Lit → Bool) (cnt : Nat) (ss : List Fs), Hid (wr.ranges Tryz.prog 140 fsR b W.heap.size nn (mDat l) left cnt) ∧ InvV l left ss ∧ J ss wr)
    (fun _ wr => wr.rangeLeft b W.heap.size)
  case atStart => exact ⟨_, _, [], hrg0, InvV.start W l, hJ [] W w0 none h0 hg0 (fun r e => by cases e)⟩
  case round =>
    obtain ⟨left, cnt, ss, hrg, hC, hJs⟩ := hrel
    gi_wp2_with (first
      | (gi_at_next; refine wpListIn_next_ranges _ rfl _ rfl 140 law2u fsR id id (fun key kl hk => ⟨key, rfl⟩) (fun v _ _ => ⟨v, rfl⟩) b W.heap.size nn _ _ _ rfl hrg.out ?_ ?_)
      | fail)
    · intro hc0 hl0
      gi_wp2_with fail
      go_end0
      exact ⟨⟨_, rfl⟩, .inl ⟨ss, hC.all hl0, hJs⟩⟩
    · intro x c kl yd yp w2 cnt2 hkey hlk hval hat hrg2 hlt hg2 hs2 hen
      obtain ⟨s, rfl, rfl, hs⟩ := entryV W (y := (yd, yp)) hval hat
      have hrw : wr.rangeLeft b W.heap.size = cnt := hrg.out.left_eq
      have hJ2 : J ss w2 := hJ ss wr w2 (some W.heap.size) hJs hg2 (fun r e => by cases e; obtain ⟨es, clock, since, seen, c0, _, _, _, _, hr, _⟩ := hrg.out; exact ⟨Nat.le_refl _, _, hr, rfl⟩)
      have hJ3 : J ss (w2.alloc (.cells #[hv s.st, .bool s.un, uv s.sq] 70)) := hJ ss w2 _ none hJ2 (World.grownBy_alloc w2 _ none) (fun r e => by cases e)
      have hlen := hC.lt W hs hlk
      have hC2 := hC.step W hs hlk
      have hY1 := hY ss s _ hJ3 hlen hs
      have hrg3 := hrg2.alloc (.cells #[hv s.st, .bool s.un, uv s.sq] 70)
      have x5 := Whole.new w2 70 #[hv s.st, .bool s.un, uv s.sq]
      unfold encF at hY1
      obtain ⟨fn, tmps, assign, body, hy, hR⟩ := hY1
      have HR2 := Lib.hid hrg3
      clear hs2 hrg2 hrg3 hrg0 hat hlk hkey hval hJ2 hJ3 hlen hC hY hg2 hs
      obtain ⟨z0, z1, z2⟩ := wh3 x5
      gi_wp2_with fail
      generalize w2.alloc (.cells #[hv s.st, .bool s.un, uv s.sq] 70) = wA at *
      refine hR.mono ?_
      rintro e W3 ⟨(⟨rfl, hJ3, hk3⟩ | ⟨rfl, hx3⟩), hkf⟩
      · have hrg3 : W3.ranges Tryz.prog 140 fsR b W.heap.size nn (mDat l) (fun z => left z && !z.sameKey (kP s.st (unN s.un))) cnt2 := by
          obtain ⟨es, clock, since, seen, c0, hb1, F, hs, hD, hr, rest⟩ := HR2.out
          exact ⟨es, clock, since, seen, c0, hk3.trans hb1, F, hs, hD, hkf.same _ _ (Nat.le_refl _) hr rfl, rest⟩
        have hl3 := hrg3.left_eq
        have HR3 := Lib.hid hrg3
        clear hrg3
        gi_wp2_with fail
        go_roundw
        case rel => exact ⟨_, cnt2, ss ++ [s], HR3, hC2, hJ3⟩
        case measure => rw [hl3, hrw]; exact hlt
      · gi_wp2_with fail
        refine bodyPost_ret (results_none rfl _ _ _) rfl ?_
        exact ⟨⟨_, rfl⟩, .inr ⟨(ss, s), trivial, hx3⟩⟩
end Go.Proofs.YtmohbkniekeafaaGreatDoor







namespace Go.Proofs.YtmohbkniekeafaaGreatDoor
open Go.RowKit Go.Maps Go.Shelf

attribute [local go_sem] Oper.semAt_some
set_option linter.unusedSimpArgs false
/-- what has come lies in a row of the call's own, its slice in the box Bs -/
def ApF (w : World) (Bs : Nat) (ss : List Fs) (W : World) : Prop := (∃ v, Boxed W Bs 47 v ∧ W.ownsRow Bs 70 3 v ss.length (fsFlat ss)) ∧ Below Bs w W ∧ Bs + 1 ≤ W.heap.size
theorem ApF.own (w : World) (Bs B : Nat) (hB : Bs < B) : OwnFrom B (ApF w Bs) := by
  rintro s X Y row ⟨⟨v, h1, h2⟩, h3, h4⟩ hg hr
  have hne : ∀ (i : Nat) (cs : Array Value) (t : TypeId) (z : Nat × Nat), X.heap[i]? = some (.cells cs t z) → some i ≠ row := by
    intro i cs t z hi e
    obtain ⟨_, o, ho, hoc⟩ := hr i e.symm
    rw [hi] at ho
    cases ho
    cases hoc
  refine ⟨⟨v, h1.kept hg (hne _ _ _ _ h1), h2.kept hg ?_⟩, h3.grown hg (by omega) (fun k e => by have := (hr k e).1; omega), Nat.le_trans h4 hg.size⟩
  rcases h2.2 with ⟨rfl, _⟩ | ⟨g, cap, cur, rfl, _, hh, _⟩
  · exact .inl rfl
  · exact .inr (hne g _ _ _ hh)
set_option maxRecDepth 100000 in
set_option maxHeartbeats 4000000 in
theorem aseqF_in (Bm b nn : Nat) (l : List Fs) (hl : l.length ≤ 100000) (w : World) (hBm : Bm < w.heap.size)
    (hm : w.cell? ⟨Bm, 0, none⟩ = some (.map (some b))) (hown : w.ownsMap Tryz.prog 140 fsR b nn (mDat l)) :
    CallsIn Fence.wide 5 Tryz.prog 169 #[.slice none 0 0, .func (.func 142) #[] #[.pointer (some ⟨Bm, 0, none⟩)]] w fun e w' =>
      ∃ (A : Option Addr) (c : Nat) (ss : List Fs), e = .returned (.slice A ss.length c) ∧ AllV l ss ∧ w'.ownsRow w.heap.size 70 3 (.slice A ss.length c) ss.length (fsFlat ss) ∧ Below w.heap.size w w' := by
  have hbl := hown.lt
  refine callsIn_of_wp_marks Tryz.func169 rfl trivial ?_ rfl
  simp only [Tryz.ntmps169, List.size_toArray, List.length_cons, List.length_nil, Nat.reduceAdd, Nat.reduceSub, Array.replicate_succ, Array.replicate_zero, List.push_toArray, List.append_toArray, List.nil_append, List.cons_append]
  gi_wp2_with fail
  have bO := Boxed.new w 47 (.slice none 0 0)
  have hB0 : Below w.heap.size w (w.alloc (.cells #[.slice none 0 0] 47)) := (Below.refl _ w).alloc (Nat.le_refl _) _
  have hs0 : (w.alloc (.cells #[.slice none 0 0] 47)).heap.size = w.heap.size + 1 := World.size_alloc _ _
  have hI0 : ApF w w.heap.size [] (w.alloc (.cells #[.slice none 0 0] 47)) := ⟨⟨_, bO, ⟨rfl, .inl ⟨rfl, rfl⟩⟩⟩, hB0, by omega⟩
  generalize w.alloc (.cells #[.slice none 0 0] 47) = W0 at *
  refine each_leave .ret (F := Fence.wide) (n := 5) (P := Tryz.prog) rfl (by omega) (gf := 142) (lb := #[.pointer (some ⟨Bm, 0, none⟩)]) rfl trivial (enters_of Tryz.func142 (by kernel_rfl) rfl)
    (encs := encF) (Kp := KpM b) (G := fun _ _ => False) (Row := fun _ _ _ => True) (Fin := fun xs => AllV l xs) (FinX := fun _ => True) (N := l.length) ?hseq (fun _ => rfl)
    (fun h1 h2 => h2.trans h1) ?hKb (ApF w w.heap.size) (ApF.own w w.heap.size W0.heap.size (by omega)) (fun _ _ => False) (fun _ _ _ _ h _ _ => h) hI0 (fun _ _ _ _ h => h.elim)
    (fun pre x a' V => ∃ g, Whole V g 70 #[hv x.st, .bool x.un, uv x.sq] ∧ a' = { tmps := #[.slice none 0 0, .func (.func 142) #[] #[.pointer (some ⟨Bm, 0, none⟩)], .pointer (some ⟨w.heap.size, 0, none⟩), undef, .slice none 0 0, .pointer (some ⟨g, 0, none⟩), .func (.func 142) #[] #[.pointer (some ⟨Bm, 0, none⟩)], fsV x, undef, undef, undef, undef, undef], defers := [] } ∧ ApF w w.heap.size pre V) ?hAx
    ?assign ?body ?done ?stop
  case hseq =>
    intro l0 J Jx W hW hJ _ _ hY h0
    have hown' : W.ownsMap Tryz.prog 140 fsR b nn (mDat l) := by
      obtain ⟨es, clock, hb, Ft, hs, hD⟩ := hown
      exact ⟨es, clock, (hW.block b (by omega)).trans ((hB0.block b hbl).trans hb), Ft, hs, hD⟩
    exact vals1_in 4 (by omega) l0 Bm b nn l J Jx W hJ (fun pre x W1 h1 h2 _ => hY pre x W1 h1 h2 trivial) (((hB0.trans (hW.mono (by omega))).cell (p := ⟨Bm, 0, none⟩) hBm).trans hm) hown' h0
  case hKb =>
    intro V l0 o o' hl ho hoc
    exact World.putObj_heap_other (by omega)
  case hAx =>
    rintro pre x a' s X Y row ⟨g, hw, ha, hi⟩ hg hr
    exact ⟨g, whole_obj hw hg (fun r e => (hr r e).2), ha, ApF.own w w.heap.size W0.heap.size (by omega) _ _ _ _ hi hg hr⟩
  case assign =>
    intro l0 pre x V K hi _ hK
    simp only [encF]
    gi_wp2
    have hbV : b < V.heap.size := Nat.lt_of_lt_of_le hbl (Nat.le_trans (by omega) hi.2.2)
    have bA : Below V.heap.size V (V.alloc (.cells #[hv x.st, .bool x.un, uv x.sq] 70)) := (Below.refl _ V).alloc (Nat.le_refl _) _
    refine hK _ _ ⟨bA.size, fun k o _ hk _ => (bA.block k (Array.getElem?_eq_some_iff.1 hk).1).trans hk⟩ (bA.block b hbV) ⟨V.heap.size, Whole.new V _ _, rfl, ApF.own w w.heap.size (w.heap.size + 1) (by omega) _ _ _ none hi (World.grownBy_alloc V _ none) (fun r e => by cases e)⟩
  case body =>
    rintro l0 pre x a' V ⟨g, hw, rfl, ⟨v, hbx, hrow⟩, hB, hsz⟩ hlt
    have hc := hbx.cell
    obtain ⟨z0, z1, z2⟩ := wh3 hw
    have rA : World.ownsRow (V.alloc (.cells #[hv x.st, .bool x.un, uv x.sq] 70)) w.heap.size 70 3 v pre.length (fsFlat pre) := own_belowR hrow ((Below.refl _ V).alloc (Nat.le_refl _) _)
    have hnew : ∀ j u, [hv x.st, .bool x.un, uv x.sq][j]? = some u → (V.alloc (.cells #[hv x.st, .bool x.un, uv x.sq] 70)).cell? ((⟨V.heap.size, 0, none⟩ : Addr).add j) = some u := fun j u hu => by
      obtain ⟨ad, e1, _, e3⟩ := Lies.newN V [hv x.st, .bool x.un, uv x.sq] 70 (by simp)
      cases e1
      exact e3 j u hu
    have hone : ∀ u ∈ [hv x.st, .bool x.un, uv x.sq], u.oneCell' = true := by intro u hu; simp at hu; rcases hu with rfl | rfl | rfl <;> rfl
    have hbs : w.heap.size ≤ (V.alloc (.cells #[hv x.st, .bool x.un, uv x.sq] 70)).heap.size := by simp; omega
    have t1 : pre.length + 1 ≤ maxLen := by unfold maxLen; omega
    have t2 : (pre.length + 1) * 8 ≤ 140737488355328 := by omega
    have t3 : w.heap.size ≤ V.heap.size := by omega
    gi_wp2_with (gi_at_builtin; refine wpListIn_append_told _ rfl (.tmp 8) (.tmp 10) 47 rfl w.heap.size 70 _ 3 8 Tryz.underlying47 fsinfo rfl (by omega) v pre.length _ rfl rA ⟨V.heap.size, 0, none⟩ 1 1 (by omega) [hv x.st, .bool x.un, uv x.sq] rfl rfl hnew hone t1 t2 hbs ?_; intro v' w' hown' hgrow' _; obtain ⟨A7, c7, rfl⟩ := own_slice2 hown'; obtain ⟨hv1, hv2, hr2, hko, hb2⟩ := hbx.appended (by decide) hrow t3 (Nat.le_refl _) hown' hgrow'; have hc1 := hv1.cell; have hf1 := hv1.frozen)
    have hsz2 := hb2.size
    have ee : fsFlat (pre ++ [x]) = fsFlat pre ++ [hv x.st, .bool x.un, uv x.sq] := fsFlat_snoc pre x
    have el : (pre ++ [x]).length = pre.length + 1 := by simp
    exact ⟨hko.from _, hb2.block b hbl, ⟨⟨_, hv2, by rw [ee, el]; exact hr2⟩, hB.trans hb2, Nat.le_trans hsz hsz2⟩⟩
  case done =>
    rintro D ss W hD hp ⟨⟨v, hv, hrow⟩, hB, _⟩ hK
    have hc := hv.cell
    obtain ⟨A', c', rfl⟩ : ∃ A' c', v = .slice A' ss.length c' := by
      rcases hrow.2 with ⟨rfl, h0⟩ | ⟨g, cap, cur, rfl, _⟩
      · exact ⟨none, 0, by rw [h0]⟩
      · exact ⟨_, _, rfl⟩
    clear hv
    gi_wp2
    refine ⟨by simp, .inl ⟨_, _, rfl, run_takeDeferred hK, ?_⟩⟩
    exact ⟨_, results_tmp rfl _ _ _, A', c', ss, rfl, hp, ownsRow_putObj hrow _ hK rfl, hB.trans (belowK_b (w := w) (Nat.le_refl _) W D _ _ (by omega) hK rfl rfl)⟩
  case stop =>
    intro D p W _ _ h _
    exact h.elim
set_option maxHeartbeats 4000000 in
theorem collF_in (Bm b nn : Nat) (l : List Fs) (hl : l.length ≤ 100000) (w : World) (hBm : Bm < w.heap.size)
    (hm : w.cell? ⟨Bm, 0, none⟩ = some (.map (some b))) (hown : w.ownsMap Tryz.prog 140 fsR b nn (mDat l)) :
    CallsIn Fence.wide 6 Tryz.prog 140 #[.func (.func 142) #[] #[.pointer (some ⟨Bm, 0, none⟩)]] w fun e w' =>
      ∃ (A : Option Addr) (c : Nat) (ss : List Fs), e = .returned (.slice A ss.length c) ∧ AllV l ss ∧ w'.ownsRow w.heap.size 70 3 (.slice A ss.length c) ss.length (fsFlat ss) ∧ Below w.heap.size w w' := by
  have hA := aseqF_in Bm b nn l hl w hBm hm hown
  refine callsIn_of_wp Tryz.func140 rfl trivial ?_ rfl
  simp only [Tryz.ntmps140, List.size_toArray, List.length_cons, List.length_nil, Nat.reduceAdd, Nat.reduceSub, Array.replicate_succ, Array.replicate_zero, List.push_toArray, List.append_toArray, List.nil_append, List.cons_append]
  gi_wp2_with (refine ⟨trivial, ?_⟩; gi_at_call 169; refine hA.mono ?_; rintro e w' ⟨A, c, ss, rfl, h1, h2, h3⟩)
  go_ret
  exact ⟨A, c, ss, rfl, h1, h2, h3⟩
end Go.Proofs.YtmohbkniekeafaaGreatDoor


