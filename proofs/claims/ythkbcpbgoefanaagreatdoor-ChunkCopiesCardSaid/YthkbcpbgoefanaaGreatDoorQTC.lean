/- Layer 6, package tlv: frameAt, nextAt, for whatever bytes. They write nothing that was there. -/
/- Layer 6, package tlv: the iterator over the frames of some bytes. -/
/- Layer 6, package tlv: Split, for whatever bytes. -/
/- Layer 6: plain facts: the frames of the bytes of a list are the list's, and the bytes of the frames of some bytes are those. -/
import Derived.Test.YthkbcpbgoefanaaGreatDoorQTA
import Derived.Test.YthkbcpbgoefanaaGreatDoorQW
import Derived.Test.YthkbcpbgoefanaaGreatDoorQE
import Derived.Laws.ResultCell
import Derived.WalkMore
import Derived.Deep.RegionHeld3
import Derived.Test.YthkbcpbgoefanaaGreatDoorQA




namespace Go.Proofs.YthkbcpbgoefanaaGreatDoor
open Go.RowKit

/-- a result that lies in memory whole, beside two that don't -/
theorem results_row_tmp2 {P : Program} {fn : Func} {p u v : Tmp} {ty : TypeId} (h : fn.results = #[.cell p ty, .tmp u, .tmp v]) (tmps : Array Value) (w : World) (g : Nat) (t : TypeId) (cs : Array Value) (d : TypeDesc)
    (hp : tmps.getD p undef = .pointer (some ⟨g, 0, none⟩)) (hg : Whole w g t cs)
    (hu : P.underlying ty = some d) (hd : (match d with | .struct _ | .array _ _ => true | _ => false) = true) (hi : (P.info? ty).map (·.size) = some cs.size) :
    (results fn tmps).run P w = .ok (.tuple #[.agg cs, tmps.getD u undef, tmps.getD v undef]) w := by
  have hp' : tmps[p]?.getD undef = .pointer (some ⟨g, 0, none⟩) := by simpa using hp
  simp only [results, h]
  simp [Result.andThen, hp', asAddr, run_loadVar_row w g t ty cs (0, 0) d hg hu hd hi]

def u16of (n : Nat) : UInt16 := UInt16.ofNat n
/-- the frame at an offset -/
def fa (b : List UInt8) (k : Nat) : Option Fr :=
  if b.length < k + 4 then none
  else if numOf ((b.drop (k + 2)).take 2) < 4 ∨ b.length < k + numOf ((b.drop (k + 2)).take 2) then none
  else some ⟨u16of (numOf ((b.drop k).take 2)), (b.drop (k + 4)).take (numOf ((b.drop (k + 2)).take 2) - 4)⟩
/-- what follows a frame that ends at e, where bytes follow -/
def nx (b : List UInt8) (e : Nat) : Option Nat := if Good b (e : Int) ∧ up e ≠ b.length then some (up e) else none

/-- what follows a frame that ends at e, or the end -/
def na (b : List UInt8) (e : Nat) : Option Nat := if e = b.length then some e else nx b e

theorem nextAt_any (A : Option Addr) (c : Nat) (b : List UInt8) (e : Nat) (w : World) (h : Lies w w.heap.size A (b.map bv)) (hbc : b.length ≤ c) (hn : b.length ≤ 10000000) :
    Calls Tryz.prog 177 #[.slice A b.length c, .int .i64 (e : Int)] w fun r w' => r = .returned (.tuple #[.int .i64 ((na b e).getD 0 : Nat), .bool (na b e).isSome]) ∧ w = w' := by
  by_cases he : e = b.length
  · have hx : na b e = some e := by unfold na; rw [if_pos he]
    rw [hx]
    have ht : ((e : Int) == (b.length : Int)) = true := by rw [beq_iff_eq]; omega
    clear hx he
    go_enter Tryz.func177, Tryz.ntmps177
    go_wp2_with fail
    go_ret2
    exact ⟨rfl, rfl⟩
  have hte : ((e : Int) == (b.length : Int)) = false := by rw [beq_eq_false_iff_ne]; omega
  have hna : na b e = nx b e := by unfold na; rw [if_neg he]
  rw [hna]
  clear he hna
  have hN := next_any A c b e w h hbc hn
  by_cases hg : Good b (e : Int)
  · obtain ⟨e1, e2⟩ := next_yes hg
    rw [e1, e2, Int.toNat_natCast] at hN
    by_cases hu : up e = b.length
    · have hx : nx b e = none := by unfold nx; rw [if_neg (by simp [hu])]
      rw [hx]
      have ht : ((up e : Int) == (b.length : Int)) = true := by rw [beq_iff_eq]; omega
      clear hu hx hg e1 e2
      generalize up e = u at *
      go_enter Tryz.func177, Tryz.ntmps177
      go_wp2_with fail
      refine hN.mono ?_
      rintro r w' ⟨rfl, rfl⟩
      go_wp2_with fail
      go_ret2
      exact ⟨rfl, rfl⟩
    · have hx : nx b e = some (up e) := by unfold nx; rw [if_pos ⟨hg, hu⟩]
      rw [hx]
      have ht : ((up e : Int) == (b.length : Int)) = false := by rw [beq_eq_false_iff_ne]; omega
      clear hu hx hg e1 e2
      generalize up e = u at *
      go_enter Tryz.func177, Tryz.ntmps177
      go_wp2_with fail
      refine hN.mono ?_
      rintro r w' ⟨rfl, rfl⟩
      go_wp2_with fail
      go_ret2
      exact ⟨rfl, rfl⟩
  · obtain ⟨e1, e2⟩ := next_no hg
    rw [e1, e2] at hN
    have hx : nx b e = none := by unfold nx; rw [if_neg (by simp [hg])]
    rw [hx]
    clear hx hg e1 e2
    go_enter Tryz.func177, Tryz.ntmps177
    go_wp2_with fail
    refine hN.mono ?_
    rintro r w' ⟨rfl, rfl⟩
    go_wp2_with fail
    go_ret2
    exact ⟨rfl, rfl⟩

theorem frameAt_short (A : Option Addr) (c : Nat) (b : List UInt8) (k : Nat) (w : World) (_hbc : b.length ≤ c) (_hm : c ≤ maxLen) (hk : k ≤ b.length) (h4 : b.length < k + 4) :
    Calls Tryz.prog 174 #[.slice A b.length c, .int .i64 (k : Int)] w fun r w' => r = .returned (.tuple #[.agg #[.int .u16 0, .slice none 0 0], .int .i64 0, faultV 4 (k : Int)]) ∧ Below w.heap.size w w' := by
  have h5 : ((b.length - k : Nat) : Int) < 4 := by omega
  go_enter Tryz.func174, Tryz.ntmps174
  go_wp2_with fail
  all_goals
    refine (New_any _ _ _).mono ?_
    rintro e w3 ⟨rfl, rfl⟩
    go_wp2_with fail
    (try simp only [Exit.inBlock, Exit.then])
    refine bodyPost_ret (results_row_tmp2 rfl _ _ w.heap.size 96 #[.int .u16 0, .slice none 0 0] _ rfl (Whole.new w _ _) Tryz.underlying96 rfl (by kernel_rfl)) rfl ?_
    exact ⟨rfl, (Below.refl _ w).alloc (Nat.le_refl _) _⟩

theorem numOf_two {l : List UInt8} (h : l.length ≤ 2) : numOf l < 65536 := by
  match l, h with
  | [], _ => simp [numOf]
  | [a], _ => have := a.toNat_lt; simp [numOf, numStep]; omega
  | [a, b], _ => have := a.toNat_lt; have := b.toNat_lt; simp [numOf, numStep]; omega
  | _ :: _ :: _ :: _, h => simp at h
theorem u16of_toNat {n : Nat} (h : n < 65536) : (u16of n).toNat = n := by
  unfold u16of
  rw [UInt16.toNat_ofNat']
  exact Nat.mod_eq_of_lt h
theorem parts1 {w : World} (v1 : Value) (p1 : List UInt8) (h1 : IsB w w.heap.size v1 p1) :
    Parts (w.alloc (.cells #[v1] 22)) (w.alloc (.cells #[v1] 22)).heap.size (some ⟨w.heap.size, 0, none⟩) [v1] [p1] := by
  have hb : Below w.heap.size w (w.alloc (.cells #[v1] 22)) := (Below.refl _ w).alloc (Nat.le_refl _) _
  refine ⟨(Lies.newN w [v1] _).more (by simp), rfl, fun i p hp => ?_⟩
  match i, hp with
  | 0, hp =>
    simp only [List.getElem?_cons_zero, Option.some.injEq] at hp
    subst hp
    obtain ⟨A, c, h1, h2, h3, h4⟩ := h1
    exact ⟨_, rfl, A, c, h1, (h2.below hb).more hb.size, h3, h4⟩
  | i + 1, hp => simp at hp
theorem tot1 (p : List UInt8) : tot [p] = p.length := by simp [tot]
/-- a copy of some bytes -/
theorem copy_join (A : Option Addr) (c : Nat) (b : List UInt8) (w : World) (h : Lies w w.heap.size A (b.map bv)) (hc : b.length ≤ c) (hm : c ≤ maxLen) (hn : b.length ≤ 10000000) :
    Calls Tryz.prog 57 #[.slice (some ⟨w.heap.size, 0, none⟩) 1 1] (w.alloc (.cells #[.slice A b.length c] 22)) fun e w' =>
      ∃ A' c', e = .returned (.slice A' b.length c') ∧ w'.ownsRow w.heap.size 5 1 (.slice A' b.length c') b.length (b.map bv) ∧ Below w.heap.size w w' := by
  have hP := parts1 (.slice A b.length c) b ⟨A, c, rfl, h, hc, hm⟩
  refine (join_any _ 1 _ _ _ hP (by simp [maxLen]) (by rw [tot1]; omega)).mono ?_
  rintro e w' ⟨A', c', rfl, hown, hb⟩
  rw [tot1] at hown ⊢
  have e3 : [b].flatten = b := by simp
  rw [e3] at hown
  exact ⟨A', c', rfl, own_base hown (by simp), ((Below.refl _ w).alloc (Nat.le_refl _) _).trans (hb.mono (by simp))⟩
/-- the same where an answer has been drawn ahead -/
theorem copy_join_drew (A : Option Addr) (c : Nat) (b : List UInt8) (w : World) (h : Lies w w.heap.size A (b.map bv)) (hc : b.length ≤ c) (hm : c ≤ maxLen) (hn : b.length ≤ 10000000) :
    Calls Tryz.prog 57 #[.slice (some ⟨w.heap.size, 0, none⟩) 1 1] (w.alloc (.cells #[.slice A b.length c] 22)).drew fun e w' =>
      ∃ A' c', e = .returned (.slice A' b.length c') ∧ w'.ownsRow w.heap.size 5 1 (.slice A' b.length c') b.length (b.map bv) ∧ Below w.heap.size w w' := by
  have h1 := copy_join A c b w.drew h hc hm hn
  refine Calls.mono (show Calls Tryz.prog 57 #[.slice (some ⟨w.heap.size, 0, none⟩) 1 1] (w.alloc (.cells #[.slice A b.length c] 22)).drew _ from h1) ?_
  rintro e w' ⟨A', c', h2, h3, h4⟩
  exact ⟨A', c', h2, h3, h4.os, h4.tape, h4.output, h4.size, h4.block⟩
/-- the two numbers that a frame begins with -/
theorem head_nums (ad : Addr) (c : Nat) (d : List UInt8) (w : World) (hd : d.length = 4) (h : Lies w w.heap.size (some ad) (d.map bv)) (hc : 4 ≤ c) :
    Calls Tryz.prog 111 #[.int .i64 2, .slice (some ad) 4 c] w fun e w' => ∃ g c', e = .returned (.slice (some ⟨g, 0, none⟩) 2 c') ∧ 2 ≤ c' ∧
      w'.cell? ⟨g, 0, none⟩ = some (.int .u32 (numOf (d.take 2) : Nat)) ∧ w'.cell? ⟨g, 1, none⟩ = some (.int .u32 (numOf ((d.drop 2).take 2) : Nat)) ∧ w.heap.size ≤ g ∧ g < w'.heap.size ∧ Below w.heap.size w w' := by
  have hN := numbersF_any 2 rfl (some ad) c d w h (by rw [hd]) (by omega) (by omega)
  rw [hd] at hN
  refine hN.mono ?_
  rintro e w' ⟨A', c', rfl, hown, hb⟩
  have hn : nums 2 d = [numAt 2 d 0, numAt 2 d 1] := by unfold nums; rw [hd]; rfl
  rw [hn] at hown
  obtain ⟨g, x, rfl, hx, h0, _, hg1, hg2⟩ := own_at hown (k := 0) (by omega)
  obtain ⟨g', y, hg, hy, h1, _⟩ := own_at hown (k := 1) (by omega)
  obtain rfl : g = g' := by simpa using hg
  have hx' := hx.out
  have hy' := hy.out
  simp only [List.map_cons, List.getElem?_cons_zero, List.getElem?_cons_succ, Option.some.injEq] at hx' hy'
  subst hx' hy'
  refine ⟨g, c', rfl, (own_cap hown).2.1, ?_, ?_, hg1, hg2, hb⟩
  · rw [h0, uv, numAt_toNat]; simp
  · rw [h1, uv, numAt_toNat]

set_option maxHeartbeats 1000000 in
theorem frameAt_bad (A : Option Addr) (c : Nat) (b : List UInt8) (k : Nat) (w : World) (h : Lies w w.heap.size A (b.map bv)) (hbc : b.length ≤ c) (_hm : c ≤ maxLen) (hn : b.length ≤ 10000000) (h4 : k + 4 ≤ b.length)
    (hbad : numOf ((b.drop (k + 2)).take 2) < 4 ∨ b.length < k + numOf ((b.drop (k + 2)).take 2)) :
    Calls Tryz.prog 174 #[.slice A b.length c, .int .i64 (k : Int)] w fun r w' => r = .returned (.tuple #[.agg #[.int .u16 0, .slice none 0 0], .int .i64 0, faultV 4 (k : Int)]) ∧ Below w.heap.size w w' := by
  obtain ⟨ad, rfl, hb, hcell⟩ := h (fun e => by have := congrArg List.length e; simp at this; subst this; simp at h4)
  have hd4 : ((b.drop k).take 4).length = 4 := by rw [List.length_take, List.length_drop]; omega
  have hl : Lies w w.heap.size (some (ad.add k)) (((b.drop k).take 4).map bv) := by
    have := (h.drop (k := k) (c := b.length + 1) (by simp)).take 4
    rw [if_neg (by omega), ← List.map_drop, ← List.map_take] at this
    exact this
  have hH := head_nums (ad.add k) (c - k) _ (w.alloc (.cells #[.int .u16 0, .slice none 0 0] 96)) hd4 ((hl.alloc (Nat.le_refl _) _).more (by simp)) (by omega)
  have e2 : (((b.drop k).take 4).drop 2).take 2 = (b.drop (k + 2)).take 2 := by rw [List.drop_take, List.drop_drop, List.take_take]; rfl
  rw [e2] at hH
  have hy := numOf_two (l := (b.drop (k + 2)).take 2) (by rw [List.length_take]; omega)
  generalize numOf ((b.drop (k + 2)).take 2) = y at *
  generalize numOf (((b.drop k).take 4).take 2) = x at *
  have h5 : (4 : Int) ≤ ((b.length - k : Nat) : Int) := by omega
  have hck : ¬ c = k := by omega
  have HH := Lib.hid hH
  clear hH hcell e2 hl hd4
  by_cases hy4 : y < 4
  · go_enter Tryz.func174, Tryz.ntmps174
    go_wp2_with fail
    refine HH.out.mono ?_
    rintro e w2 ⟨g, c', rfl, hc2, g0, g1, hg1, hg2, b2⟩
    have hW := (Whole.new w 96 #[.int .u16 0, .slice none 0 0]).below b2 (by simp)
    have hb2 : Below w.heap.size w w2 := ((Below.refl _ w).alloc (Nat.le_refl _) _).trans (b2.mono (by simp))
    have c0 := hW.cell 0
    have c1 := hW.cell 1
    have f0 := hW.frozen 0
    have f1 := hW.frozen 1
    simp only [List.getElem?_toArray, List.getElem?_cons_zero, List.getElem?_cons_succ] at c0 c1
    go_wp2_with fail
    refine (New_any _ _ _).mono ?_
    rintro e w3 ⟨rfl, rfl⟩
    go_wp2_with fail
    (try simp only [Exit.inBlock, Exit.then])
    refine bodyPost_ret (results_row_tmp2 rfl _ _ w.heap.size 96 #[.int .u16 0, .slice none 0 0] _ rfl ((hW.set_ 0 _).set_ 1 _) Tryz.underlying96 rfl (by kernel_rfl)) rfl ?_
    exact ⟨rfl, (hb2.setCell (Nat.le_refl _) _).setCell (Nat.le_refl _) _⟩
  · have h6 : ((b.length - k : Nat) : Int) < (y : Int) := by omega
    have h7 : (4 : Int) ≤ (y : Int) := by omega
    go_enter Tryz.func174, Tryz.ntmps174
    go_wp2_with fail
    refine HH.out.mono ?_
    rintro e w2 ⟨g, c', rfl, hc2, g0, g1, hg1, hg2, b2⟩
    have hW := (Whole.new w 96 #[.int .u16 0, .slice none 0 0]).below b2 (by simp)
    have hb2 : Below w.heap.size w w2 := ((Below.refl _ w).alloc (Nat.le_refl _) _).trans (b2.mono (by simp))
    have c0 := hW.cell 0
    have c1 := hW.cell 1
    have f0 := hW.frozen 0
    have f1 := hW.frozen 1
    simp only [List.getElem?_toArray, List.getElem?_cons_zero, List.getElem?_cons_succ] at c0 c1
    go_wp2_with fail
    refine (New_any _ _ _).mono ?_
    rintro e w3 ⟨rfl, rfl⟩
    go_wp2_with fail
    (try simp only [Exit.inBlock, Exit.then])
    refine bodyPost_ret (results_row_tmp2 rfl _ _ w.heap.size 96 #[.int .u16 0, .slice none 0 0] _ rfl ((hW.set_ 0 _).set_ 1 _) Tryz.underlying96 rfl (by kernel_rfl)) rfl ?_
    exact ⟨rfl, (hb2.setCell (Nat.le_refl _) _).setCell (Nat.le_refl _) _⟩

theorem own_set {w : World} {base e n c g i : Nat} {A : Option Addr} {xs : List Value} (h : w.ownsRow base e 1 (.slice A n c) n xs) (hg : g < base) (u : Value) : (w.setCell ⟨g, i, none⟩ u).ownsRow base e 1 (.slice A n c) n xs :=
  h.kept (row := some g) ⟨rfl, rfl, rfl, by simp [World.setCell], fun j _ hj => Below.heap_setCell w _ _ j (fun e => hj (by rw [e]))⟩ (.inr (fun e => by have := (h.lt g e).1; omega))
theorem u16_wrap {x : Nat} (hx : x < 65536) : Value.int .u16 (IntKind.u16.wrap (x : Int)) = hv (u16of x) := by
  rw [hv, u16of_toNat hx, IntKind.wrap_u16]
  congr 1
  omega
set_option maxHeartbeats 1000000 in
theorem frameAt_pad (A : Option Addr) (c : Nat) (b : List UInt8) (k : Nat) (w : World) (h : Lies w w.heap.size A (b.map bv)) (hbc : b.length ≤ c) (_hm : c ≤ maxLen) (hn : b.length ≤ 10000000) (h4 : k + 4 ≤ b.length) (y : Nat) (hy0 : y = numOf ((b.drop (k + 2)).take 2))
    (hy4 : 4 ≤ y) (hyb : k + y ≤ b.length) (hna : na b (k + y) = none) :
    Calls Tryz.prog 174 #[.slice A b.length c, .int .i64 (k : Int)] w fun r w' => r = .returned (.tuple #[.agg #[.int .u16 0, .slice none 0 0], .int .i64 0, faultV 5 ((k : Int) + (y : Int))]) ∧ Below w.heap.size w w' := by
  have hN : ∀ w2, Below w.heap.size w w2 → Calls Tryz.prog 177 #[.slice A b.length c, .int .i64 ((k : Int) + (y : Int))] w2 fun r w' => r = .returned (.tuple #[.int .i64 0, .bool false]) ∧ w2 = w' := fun w2 h2 => by
    have := nextAt_any A c b (k + y) w2 ((h.below h2).more h2.size) hbc hn
    rw [hna, Int.natCast_add] at this
    exact this
  obtain ⟨ad, rfl, hb, hcell⟩ := h (fun e => by have := congrArg List.length e; simp at this; subst this; simp at h4)
  have hd4 : ((b.drop k).take 4).length = 4 := by rw [List.length_take, List.length_drop]; omega
  have hl : Lies w w.heap.size (some (ad.add k)) (((b.drop k).take 4).map bv) := by
    have := (h.drop (k := k) (c := b.length + 1) (by simp)).take 4
    rw [if_neg (by omega), ← List.map_drop, ← List.map_take] at this
    exact this
  have hH := head_nums (ad.add k) (c - k) _ (w.alloc (.cells #[.int .u16 0, .slice none 0 0] 96)) hd4 ((hl.alloc (Nat.le_refl _) _).more (by simp)) (by omega)
  have e2 : (((b.drop k).take 4).drop 2).take 2 = (b.drop (k + 2)).take 2 := by rw [List.drop_take, List.drop_drop, List.take_take]; rfl
  rw [e2, ← hy0] at hH
  generalize numOf (((b.drop k).take 4).take 2) = x at *
  have h5 : (4 : Int) ≤ ((b.length - k : Nat) : Int) := by omega
  have h6 : (y : Int) ≤ ((b.length - k : Nat) : Int) := by omega
  have h7 : (4 : Int) ≤ (y : Int) := by omega
  have hck : ¬ c = k := by omega
  have HH := Lib.hid hH
  have HN := Lib.hid hN
  clear hH hcell e2 hl hd4 hN hna hy0
  go_enter Tryz.func174, Tryz.ntmps174
  go_wp2_with fail
  refine HH.out.mono ?_
  rintro e w2 ⟨g, c', rfl, hc2, g0, g1, hg1, hg2, b2⟩
  have hW := (Whole.new w 96 #[.int .u16 0, .slice none 0 0]).below b2 (by simp)
  have hb2 : Below w.heap.size w w2 := ((Below.refl _ w).alloc (Nat.le_refl _) _).trans (b2.mono (by simp))
  have c0 := hW.cell 0
  have c1 := hW.cell 1
  have f0 := hW.frozen 0
  have f1 := hW.frozen 1
  simp only [List.getElem?_toArray, List.getElem?_cons_zero, List.getElem?_cons_succ] at c0 c1
  go_wp2_with fail
  refine (HN.out w2 hb2).mono ?_
  rintro e w3 ⟨rfl, rfl⟩
  go_wp2_with fail
  refine (New_any _ _ _).mono ?_
  rintro e w3 ⟨rfl, rfl⟩
  go_wp2_with fail
  (try simp only [Exit.inBlock, Exit.then])
  refine bodyPost_ret (results_row_tmp2 rfl _ _ w.heap.size 96 #[.int .u16 0, .slice none 0 0] _ rfl ((hW.set_ 0 _).set_ 1 _) Tryz.underlying96 rfl (by kernel_rfl)) rfl ?_
  exact ⟨rfl, (hb2.setCell (Nat.le_refl _) _).setCell (Nat.le_refl _) _⟩

set_option maxHeartbeats 1000000 in
theorem frameAt_good (A : Option Addr) (c : Nat) (b : List UInt8) (k : Nat) (w : World) (h : Lies w w.heap.size A (b.map bv)) (hbc : b.length ≤ c) (hm : c ≤ maxLen) (hn : b.length ≤ 10000000) (h4 : k + 4 ≤ b.length) (y : Nat) (hy0 : y = numOf ((b.drop (k + 2)).take 2))
    (hy4 : 4 ≤ y) (hyb : k + y ≤ b.length) (k' : Nat) (hna : na b (k + y) = some k') (v : List UInt8) (hvv : v = (b.drop (k + 4)).take (y - 4)) :
    Calls Tryz.prog 174 #[.slice A b.length c, .int .i64 (k : Int)] w fun r w' => ∃ A' c', r = .returned (.tuple #[.agg #[hv (u16of (numOf ((b.drop k).take 2))), .slice A' v.length c'], .int .i64 (k' : Int), .nilIface]) ∧
      w'.ownsRow w.heap.size 5 1 (.slice A' v.length c') v.length (v.map bv) ∧ Below w.heap.size w w' := by
  have hN : ∀ w2, Below w.heap.size w w2 → Calls Tryz.prog 177 #[.slice A b.length c, .int .i64 ((k : Int) + (y : Int))] w2 fun r w' => r = .returned (.tuple #[.int .i64 (k' : Int), .bool true]) ∧ w2 = w' := fun w2 h2 => by
    have := nextAt_any A c b (k + y) w2 ((h.below h2).more h2.size) hbc hn
    rw [hna, Int.natCast_add] at this
    exact this
  have HN := Lib.hid hN
  clear hN hna
  obtain ⟨ad, rfl, hb, hcell⟩ := h (fun e => by have := congrArg List.length e; simp at this; subst this; simp at h4)
  have hd4 : ((b.drop k).take 4).length = 4 := by rw [List.length_take, List.length_drop]; omega
  have hl : Lies w w.heap.size (some (ad.add k)) (((b.drop k).take 4).map bv) := by
    have := (h.drop (k := k) (c := b.length + 1) (by simp)).take 4
    rw [if_neg (by omega), ← List.map_drop, ← List.map_take] at this
    exact this
  have hvl : v.length = y - 4 := by rw [hvv, List.length_take, List.length_drop]; omega
  have hl4 : Lies w w.heap.size (if c - k = 4 then some (ad.add k) else some ((ad.add k).add 4)) (v.map bv) := by
    have h1 := h.drop (k := k) (c := b.length + 1) (by simp)
    rw [if_neg (by omega), ← List.map_drop] at h1
    have h2 := (h1.drop (k := 4) (c := c - k) (by simp; omega)).take (y - 4)
    rw [← List.map_drop, ← List.map_take, List.drop_drop, ← hvv] at h2
    exact h2
  have hH := head_nums (ad.add k) (c - k) _ (w.alloc (.cells #[.int .u16 0, .slice none 0 0] 96)) hd4 ((hl.alloc (Nat.le_refl _) _).more (by simp)) (by omega)
  have e2 : (((b.drop k).take 4).drop 2).take 2 = (b.drop (k + 2)).take 2 := by rw [List.drop_take, List.drop_drop, List.take_take]; rfl
  have e3 : ((b.drop k).take 4).take 2 = (b.drop k).take 2 := by rw [List.take_take]; rfl
  rw [e2, ← hy0, e3] at hH
  have hx := numOf_two (l := (b.drop k).take 2) (by rw [List.length_take]; omega)
  have hxt := u16of_toNat hx
  generalize numOf ((b.drop k).take 2) = x at *
  have h5 : (4 : Int) ≤ ((b.length - k : Nat) : Int) := by omega
  have h6 : (y : Int) ≤ ((b.length - k : Nat) : Int) := by omega
  have h7 : (4 : Int) ≤ (y : Int) := by omega
  have hck : ¬ c = k := by omega
  have HV := Lib.hid hvl
  have HX := Lib.hid hxt
  have hb0 : Below w.heap.size w (w.alloc (.cells #[.int .u16 0, .slice none 0 0] 96)) := (Below.refl _ w).alloc (Nat.le_refl _) _
  clear hcell e2 e3 hl hd4 hvv hy0 hvl hxt
  by_cases hcc : c - k = 4
  · obtain rfl : y = 4 := by omega
    simp only [Int.cast_ofNat_Int] at HN
    rw [hcc] at hH
    have HH := Lib.hid hH
    have hv0 : v = [] := List.eq_nil_of_length_eq_zero (by rw [HV.out])
    subst hv0
    have HJ : Hid (∀ (W : World) (A' : Option Addr), Calls Tryz.prog 57 #[.slice (some ⟨W.heap.size, 0, none⟩) 1 1] (W.alloc (.cells #[.slice A' 0 0] 22)).drew fun e w' =>
      ∃ A' c', e = .returned (.slice A' 0 c') ∧ w'.ownsRow W.heap.size 5 1 (.slice A' 0 c') 0 [] ∧ Below W.heap.size W w') := fun W A' =>
        copy_join_drew A' 0 [] W Lies.nil (by simp) (by unfold maxLen; omega) (by simp)
    clear hH hl4 h5 h7
    have h5 : (4 : Int) ≤ ((b.length - k : Nat) : Int) := by omega
    go_enter Tryz.func174, Tryz.ntmps174
    go_wp2_with fail
    refine HH.out.mono ?_
    rintro e w2 ⟨g, c', rfl, hc2, g0, g1, hg1, hg2, b2⟩
    have hW := (Whole.new w 96 #[.int .u16 0, .slice none 0 0]).below b2 (by simp)
    have hb2 : Below w.heap.size w w2 := hb0.trans (b2.mono (by simp))
    go_wp2_with fail
    refine (HN.out w2 hb2).mono ?_
    rintro e w3 ⟨rfl, rfl⟩
    go_wp2_with fail
    have hw2 := b2.size
    have hne : g ≠ w.heap.size := by simp at hg1; omega
    have hne' : w.heap.size ≠ g := Ne.symm hne
    simp only [World.size_alloc] at hw2
    go_region_held3 (fun w' => w'.cell? ⟨g, 0, none⟩ = some (.int .u32 (x : Int))) (go_keep) (first | (go_at_call 57; refine (HJ.out w2 _).mono ?_; rintro e w3 ⟨A3, c3, rfl, hown, b3⟩; have k0 : w3.cell? ⟨g, 0, none⟩ = some (.int .u32 (x : Int)) := (b3.cell (p := ⟨g, 0, none⟩) hg2).trans g0; have hW3 := hW.below b3 (by omega); have r0 := hW3.cell 0; have r1 := hW3.cell 1; have f0 := hW3.frozen 0; have f1 := hW3.frozen 1; simp only [List.getElem?_toArray, List.getElem?_cons_zero, List.getElem?_cons_succ] at r0 r1))
    go_wp2_with fail
    (try simp only [Exit.inBlock, Exit.then])
    refine bodyPost_ret (results_row_tmp2 rfl _ _ w.heap.size 96 #[.int .u16 (IntKind.u16.wrap (x : Int)), .slice A3 0 c3] _ rfl ((hW3.set_ 0 _).set_ 1 _) Tryz.underlying96 rfl (by kernel_rfl)) rfl ?_
    refine ⟨A3, c3, ?_, ?_, ((hb2.trans (b3.mono hb2.size)).setCell (Nat.le_refl _) _).setCell (Nat.le_refl _) _⟩
    · rw [u16_wrap hx]; rfl
    · exact own_base (own_set (own_set hown (by omega) _) (by omega) _) (by omega)
  · rw [if_neg hcc] at hl4
    have HH := Lib.hid hH
    have h8 : (y : Int) ≤ ((c - k : Nat) : Int) := by omega
    have HJ : Hid (∀ W : World, Below w.heap.size w W → Calls Tryz.prog 57 #[.slice (some ⟨W.heap.size, 0, none⟩) 1 1] (W.alloc (.cells #[.slice (some ((ad.add k).add 4)) (y - 4) (c - k - 4)] 22)).drew fun e w' =>
      ∃ A' c', e = .returned (.slice A' v.length c') ∧ w'.ownsRow W.heap.size 5 1 (.slice A' v.length c') v.length (v.map bv) ∧ Below W.heap.size W w') := fun W hW => by
        have h8 := copy_join_drew (some ((ad.add k).add 4)) (c - k - 4) v W ((hl4.below hW).more hW.size) (by rw [HV.out]; omega) (by unfold maxLen at *; omega) (by rw [HV.out]; omega)
        rw [HV.out] at h8 ⊢
        exact h8
    clear hH hl4
    go_enter Tryz.func174, Tryz.ntmps174
    go_wp2_with fail
    refine HH.out.mono ?_
    rintro e w2 ⟨g, c', rfl, hc2, g0, g1, hg1, hg2, b2⟩
    have hW := (Whole.new w 96 #[.int .u16 0, .slice none 0 0]).below b2 (by simp)
    have hb2 : Below w.heap.size w w2 := hb0.trans (b2.mono (by simp))
    go_wp2_with fail
    refine (HN.out w2 hb2).mono ?_
    rintro e w3 ⟨rfl, rfl⟩
    go_wp2_with fail
    have hw2 := b2.size
    have hne : g ≠ w.heap.size := by simp at hg1; omega
    have hne' : w.heap.size ≠ g := Ne.symm hne
    simp only [World.size_alloc] at hw2
    go_region_held3 (fun w' => w'.cell? ⟨g, 0, none⟩ = some (.int .u32 (x : Int))) (go_keep) (first | (go_at_call 57; refine (HJ.out w2 hb2).mono ?_; rintro e w3 ⟨A3, c3, rfl, hown, b3⟩; have k0 : w3.cell? ⟨g, 0, none⟩ = some (.int .u32 (x : Int)) := (b3.cell (p := ⟨g, 0, none⟩) hg2).trans g0; have hW3 := hW.below b3 (by omega); have r0 := hW3.cell 0; have r1 := hW3.cell 1; have f0 := hW3.frozen 0; have f1 := hW3.frozen 1; simp only [List.getElem?_toArray, List.getElem?_cons_zero, List.getElem?_cons_succ] at r0 r1))
    go_wp2_with fail
    (try simp only [Exit.inBlock, Exit.then])
    refine bodyPost_ret (results_row_tmp2 rfl _ _ w.heap.size 96 #[.int .u16 (IntKind.u16.wrap (x : Int)), .slice A3 v.length c3] _ rfl ((hW3.set_ 0 _).set_ 1 _) Tryz.underlying96 rfl (by kernel_rfl)) rfl ?_
    refine ⟨A3, c3, ?_, ?_, ((hb2.trans (b3.mono hb2.size)).setCell (Nat.le_refl _) _).setCell (Nat.le_refl _) _⟩
    · rw [u16_wrap hx]; rfl
    · exact own_base (own_set (own_set hown (by omega) _) (by omega) _) (by omega)

theorem fa_len {b : List UInt8} {k : Nat} {f : Fr} (hf : fa b k = some f) : k + frL f ≤ b.length := by
  unfold fa at hf
  split at hf
  · simp at hf
  · split at hf
    · simp at hf
    · simp only [Option.some.injEq] at hf
      subst hf
      unfold frL
      simp only [List.length_take, List.length_drop]
      omega
theorem frameAt_none (A : Option Addr) (c : Nat) (b : List UInt8) (k : Nat) (w : World) (h : Lies w w.heap.size A (b.map bv)) (hbc : b.length ≤ c) (hm : c ≤ maxLen) (hn : b.length ≤ 10000000) (hk : k ≤ b.length) (hf : fa b k = none) :
    Calls Tryz.prog 174 #[.slice A b.length c, .int .i64 (k : Int)] w fun r w' => r = .returned (.tuple #[.agg #[.int .u16 0, .slice none 0 0], .int .i64 0, faultV 4 (k : Int)]) ∧ Below w.heap.size w w' := by
  unfold fa at hf
  split at hf
  · exact frameAt_short A c b k w hbc hm hk (by assumption)
  · split at hf
    · exact frameAt_bad A c b k w h hbc hm hn (by omega) (by assumption)
    · simp at hf
theorem fa_num {b : List UInt8} {k : Nat} {f : Fr} (hf : fa b k = some f) : k + 4 ≤ b.length ∧ frL f = numOf ((b.drop (k + 2)).take 2) ∧ 4 ≤ frL f ∧ f.t = u16of (numOf ((b.drop k).take 2)) ∧ f.v = (b.drop (k + 4)).take (frL f - 4) := by
  have hl := fa_len hf
  unfold fa at hf
  split at hf
  · simp at hf
  · split at hf
    · simp at hf
    · simp only [Option.some.injEq] at hf
      have e : frL f = numOf ((b.drop (k + 2)).take 2) := by
        rw [← hf]
        unfold frL
        simp only [List.length_take, List.length_drop]
        omega
      exact ⟨by omega, e, by omega, by rw [← hf], by rw [e, ← hf]⟩
theorem frameAt_wrong (A : Option Addr) (c : Nat) (b : List UInt8) (k : Nat) (f : Fr) (w : World) (h : Lies w w.heap.size A (b.map bv)) (hbc : b.length ≤ c) (hm : c ≤ maxLen) (hn : b.length ≤ 10000000) (hf : fa b k = some f) (hna : na b (k + frL f) = none) :
    Calls Tryz.prog 174 #[.slice A b.length c, .int .i64 (k : Int)] w fun r w' => r = .returned (.tuple #[.agg #[.int .u16 0, .slice none 0 0], .int .i64 0, faultV 5 ((k + frL f : Nat) : Int)]) ∧ Below w.heap.size w w' := by
  obtain ⟨h1, h2, h3, _, _⟩ := fa_num hf
  rw [Int.natCast_add]
  exact frameAt_pad A c b k w h hbc hm hn h1 _ h2 h3 (fa_len hf) hna
theorem frameAt_some (A : Option Addr) (c : Nat) (b : List UInt8) (k : Nat) (f : Fr) (k' : Nat) (w : World) (h : Lies w w.heap.size A (b.map bv)) (hbc : b.length ≤ c) (hm : c ≤ maxLen) (hn : b.length ≤ 10000000) (hf : fa b k = some f) (hna : na b (k + frL f) = some k') :
    Calls Tryz.prog 174 #[.slice A b.length c, .int .i64 (k : Int)] w fun r w' => ∃ A' c', r = .returned (.tuple #[.agg #[hv f.t, .slice A' f.v.length c'], .int .i64 (k' : Int), .nilIface]) ∧
      w'.ownsRow w.heap.size 5 1 (.slice A' f.v.length c') f.v.length (f.v.map bv) ∧ Below w.heap.size w w' := by
  obtain ⟨h1, h2, h3, h4, h5⟩ := fa_num hf
  have := frameAt_good A c b k w h hbc hm hn h1 _ h2 h3 (fa_len hf) k' hna f.v h5
  rw [← h4] at this
  exact this
end Go.Proofs.YthkbcpbgoefanaaGreatDoor





namespace Go.Proofs.YthkbcpbgoefanaaGreatDoor
open Go.RowKit Go.Shelf

attribute [local go_sem] Oper.semAt_some

/-! ### which frames come -/
theorem nx_some {b : List UInt8} {e k : Nat} (h : nx b e = some k) : k = up e ∧ e ≤ k ∧ k < b.length ∧ zeroB ((b.drop e).take (gap e)) = true := by
  unfold nx at h
  split at h
  · rename_i hg
    obtain ⟨⟨_, h2, h3⟩, h4⟩ := hg
    simp only [Option.some.injEq] at h
    subst h
    rw [Int.toNat_natCast] at h2 h3
    exact ⟨rfl, by unfold up; omega, by omega, h3⟩
  · simp at h
theorem frL_pos (f : Fr) : 4 ≤ frL f := by unfold frL; omega
def yla (b : List UInt8) (k : Nat) : List (Nat × Fr) :=
  match fa b k with
  | none => []
  | some f => match _h : nx b (k + frL f) with
    | none => [(k, f)]
    | some k' => (k, f) :: yla b k'
termination_by b.length - k
decreasing_by
  have := nx_some _h
  have := frL_pos f
  omega
theorem yla_none {b : List UInt8} {k : Nat} (h : fa b k = none) : yla b k = [] := by
  rw [yla, h]
theorem yla_last {b : List UInt8} {k : Nat} {f : Fr} (h : fa b k = some f) (hn : nx b (k + frL f) = none) : yla b k = [(k, f)] := by
  rw [yla, h]
  simp only
  split
  · rfl
  · rename_i h2; rw [hn] at h2; cases h2
theorem yla_more {b : List UInt8} {k k' : Nat} {f : Fr} (h : fa b k = some f) (hn : nx b (k + frL f) = some k') : yla b k = (k, f) :: yla b k' := by
  rw [yla, h]
  simp only
  split
  · rename_i h2; rw [hn] at h2; cases h2
  · rename_i k2 h2; rw [hn] at h2; cases h2; rfl

/-! ### what Split hands back -/
inductive Out where
  | ok (fs : List Fr)
  | bad (code k : Nat)
def kend (l : List (Nat × Fr)) : Nat := match l.getLast? with | none => 0 | some y => y.1 + frL y.2
def spl (b : List UInt8) : Out :=
  if kend (yla b 0) = b.length then .ok ((yla b 0).map Prod.snd)
  else match nx b (kend (yla b 0)) with
    | none => .bad 5 (kend (yla b 0))
    | some k => .bad 4 k
theorem nx_end (b : List UInt8) : nx b b.length = none := by
  unfold nx
  rw [if_neg]
  rintro ⟨⟨_, h1, _⟩, h2⟩
  rw [Int.toNat_natCast] at h1
  have : up b.length = b.length + gap b.length := rfl
  omega
/-! ### what has come so far, and what is left -/
structure Live (b : List UInt8) (pre : List (Nat × Fr)) (k : Nat) : Prop where
  all : pre ++ yla b k = yla b 0
  nx : nx b (kend pre) = some k
theorem kend_snoc (pre : List (Nat × Fr)) (x : Nat × Fr) : kend (pre ++ [x]) = x.1 + frL x.2 := by simp [kend]
theorem live_start {b : List UInt8} (h : b ≠ []) : Live b [] 0 := by
  refine ⟨rfl, ?_⟩
  have h2 : 0 < b.length := List.length_pos_iff.2 h
  unfold Go.Proofs.YthkbcpbgoefanaaGreatDoor.nx
  rw [if_pos]
  · rfl
  · refine ⟨⟨by simp [kend], ?_, ?_⟩, ?_⟩
    · simp [kend, up, gap]
    · simp [kend, gap, zeroB]
    · simp only [kend, List.getLast?_nil, up, gap]; omega
section
variable {b : List UInt8} {pre : List (Nat × Fr)} {k : Nat}
theorem Live.ne (h : Live b pre k) : kend pre ≠ b.length := fun e => by
  have := h.nx
  rw [e, nx_end] at this
  cases this
theorem Live.none (h : Live b pre k) (hf : fa b k = .none) : spl b = .bad 4 k := by
  have e : yla b 0 = pre := by rw [← h.all, yla_none hf, List.append_nil]
  unfold spl
  rw [e, if_neg h.ne, h.nx]
theorem Live.last (h : Live b pre k) {f : Fr} (hf : fa b k = some f) (hn : Go.Proofs.YthkbcpbgoefanaaGreatDoor.nx b (k + frL f) = .none) : yla b 0 = pre ++ [(k, f)] := by
  rw [← h.all, yla_last hf hn]
theorem Live.pad (h : Live b pre k) {f : Fr} (hf : fa b k = some f) (hn : Go.Proofs.YthkbcpbgoefanaaGreatDoor.nx b (k + frL f) = .none) (he : k + frL f ≠ b.length) : spl b = .bad 5 (k + frL f) := by
  have e := h.last hf hn
  unfold spl
  rw [e, kend_snoc, if_neg he, hn]
theorem Live.done (h : Live b pre k) {f : Fr} (hf : fa b k = some f) (he : k + frL f = b.length) : spl b = .ok ((pre ++ [(k, f)]).map Prod.snd) := by
  have e := h.last hf (by rw [he]; exact nx_end b)
  unfold spl
  rw [e, kend_snoc, if_pos he]
theorem Live.more (h : Live b pre k) {f : Fr} {k' : Nat} (hf : fa b k = some f) (hn : Go.Proofs.YthkbcpbgoefanaaGreatDoor.nx b (k + frL f) = some k') : Live b (pre ++ [(k, f)]) k' := by
  refine ⟨?_, ?_⟩
  · rw [← h.all, yla_more hf hn, List.append_assoc]
    rfl
  · rw [kend_snoc]
    exact hn
theorem Live.four (h : Live b pre k) : k % 4 = 0 := by
  obtain ⟨h1, _⟩ := nx_some h.nx
  rw [h1]
  exact up_mod _
end
/-- where the reading stands: at the end, or at a frame's offset -/
def Cur (b : List UInt8) (pre : List (Nat × Fr)) (k : Nat) : Prop := (k = b.length ∧ spl b = .ok (pre.map Prod.snd)) ∨ (k < b.length ∧ pre.length ≤ k ∧ Live b pre k)
theorem cur_start (b : List UInt8) : Cur b [] 0 := by
  by_cases h : b = []
  · subst h
    refine .inl ⟨rfl, ?_⟩
    have h : yla ([] : List UInt8) 0 = [] := yla_none (by simp [fa])
    unfold spl
    rw [h]
    rfl
  · exact .inr ⟨List.length_pos_iff.2 h, Nat.le_refl _, live_start h⟩
theorem Live.next {b : List UInt8} {pre : List (Nat × Fr)} {k k' : Nat} {f : Fr} (h : Live b pre k) (hl : pre.length ≤ k) (hf : fa b k = some f) (hn : na b (k + frL f) = some k') : Cur b (pre ++ [(k, f)]) k' ∧ k < k' ∧ k' ≤ b.length := by
  have h4 := frL_pos f
  have h5 := fa_len hf
  unfold na at hn
  split at hn
  · rename_i he
    simp only [Option.some.injEq] at hn
    subst hn
    exact ⟨.inl ⟨he, h.done hf he⟩, by omega, h5⟩
  · obtain ⟨_, h1, h2, _⟩ := nx_some hn
    exact ⟨.inr ⟨h2, by rw [List.length_append]; simp; omega, h.more hf hn⟩, by omega, by omega⟩
theorem Live.wrong {b : List UInt8} {pre : List (Nat × Fr)} {k : Nat} {f : Fr} (h : Live b pre k) (hf : fa b k = some f) (hn : na b (k + frL f) = Option.none) : spl b = .bad 5 (k + frL f) := by
  unfold na at hn
  split at hn
  · simp at hn
  · rename_i he
    exact h.pad hf hn he

/-! ### one element that comes: an offset and a frame whose value lies in memory -/
structure Yf where
  k : Nat
  f : Fr
  A : Option Addr
  c : Nat
  le : k + frL f ≤ 10000000
def Yf.key (y : Yf) : Nat × Fr := (y.k, y.f)
def Yf.val (y : Yf) : Value := .slice y.A y.f.v.length y.c
def encY (y : Yf) : Array Value := #[.agg #[.int .i64 (y.k : Int), hv y.f.t, .slice y.A y.f.v.length y.c], .nilIface]
/-- the last element that comes, if there is an error: nothing, and its code and its offset -/
def encL (e : Nat × Nat) : Array Value := #[.agg #[.int .i64 0, .int .u16 0, .slice none 0 0], faultV (e.1 : Int) (e.2 : Int)]
/-- what a round keeps: what lay below n₀, and every block of cells but those that the caller's rounds may write (G); what they may write of what was there, they might before -/
structure KpG (G : World → Nat → Prop) (n₀ : Nat) (A B : World) : Prop where
  low : Below n₀ A B
  same : ∀ (i : Nat) (cs : Array Value) (t : TypeId) (z : Nat × Nat), ¬ G A i → A.heap[i]? = some (.cells cs t z) → B.heap[i]? = some (.cells cs t z)
  own : ∀ i, i < A.heap.size → G B i → G A i
section
variable {G : World → Nat → Prop} {n₀ : Nat} {A B C : World}
theorem KpG.refl (G : World → Nat → Prop) (n₀ : Nat) (A : World) : KpG G n₀ A A := ⟨Below.refl _ _, fun _ _ _ _ _ h => h, fun _ _ h => h⟩
theorem KpG.trans (h : KpG G n₀ A B) (k : KpG G n₀ B C) : KpG G n₀ A C :=
  ⟨h.low.trans k.low, fun i cs t z hg hi => k.same i cs t z (fun hb => hg (h.own i (Array.getElem?_eq_some_iff.1 hi).1 hb)) (h.same i cs t z hg hi), fun i hi hc => h.own i hi (k.own i (Nat.lt_of_lt_of_le hi h.low.size) hc)⟩
/-- the bytes of an element, in a row of their own -/
def RowG (G : World → Nat → Prop) (W : World) (A : Option Addr) (c : Nat) (l : List UInt8) : Prop :=
  (∃ base, W.ownsRow base 5 1 (.slice A l.length c) l.length (l.map bv)) ∧ ∀ u, A = some u → ¬ G W u.block
theorem RowG.keep {a : Option Addr} {c : Nat} {l : List UInt8} (h : RowG G A a c l) (k : KpG G n₀ A B) : RowG G B a c l := by
  obtain ⟨⟨base, h1, h2⟩, hg⟩ := h
  rcases h2 with h2 | ⟨g, cap, cur, h3, h4, h5, h6⟩
  · simp only [Value.slice.injEq] at h2
    obtain ⟨⟨rfl, h7, rfl⟩, h8⟩ := h2
    exact ⟨⟨base, h1, .inl ⟨by rw [h7], h8⟩⟩, fun u hu => by cases hu⟩
  · simp only [Value.slice.injEq] at h3
    obtain ⟨rfl, _, rfl⟩ := h3
    have hlt := (Array.getElem?_eq_some_iff.1 h5).1
    exact ⟨⟨base, h1, .inr ⟨g, c, cur, rfl, h4, k.same _ _ _ _ (hg _ rfl) h5, h6⟩⟩, fun u hu => by cases hu; exact fun hb => hg _ rfl (k.own _ hlt hb)⟩
theorem RowG.isB {W : World} {a : Option Addr} {c : Nat} {l : List UInt8} (h : RowG G W a c l) : IsB W W.heap.size (.slice a l.length c) l := by
  obtain ⟨⟨base, h1⟩, _⟩ := h
  have := own_cap h1
  exact ⟨a, c, rfl, Lies.own h1, this.2.1, this.2.2⟩
end
theorem below_undrew {n : Nat} {w w' : World} (h : Below n w.drew w') : Below n w w' := ⟨h.os, h.tape, h.output, h.size, h.block⟩
theorem grown_of_below {A B : World} (h : Below A.heap.size A B) : A.grownBy B none := ⟨h.os, h.tape, h.output, h.size, fun k hk _ => h.block k hk⟩
def FinB (G : World → Nat → Prop) (b : List UInt8) (ys : List Yf) (W : World) : Prop := spl b = .ok (ys.map Yf.f) ∧ ∀ y ∈ ys, RowG G W y.A y.c y.f.v
def FinL (b : List UInt8) (e : Nat × Nat) : Prop := spl b = .bad e.1 e.2

set_option maxRecDepth 100000 in
set_option maxHeartbeats 2000000 in
theorem places1_in (n : Nat) (hn : 1 ≤ n) (l Bb n₀ : Nat) (A : Option Addr) (c : Nat) (b : List UInt8) (hc : b.length ≤ c) (hm : c ≤ maxLen) (hs : b.length ≤ 10000000)
    (G : World → Nat → Prop) (hGg : ∀ A B, (∀ i, G A i → i < A.heap.size) → A.grownBy B none → ∀ i, G B i → G A i)
    (J : List Yf → World → Prop) (Jx : Nat × Nat → World → Prop) (hJg : ∀ s A B, J s A → A.grownBy B none → J s B) (hJG : ∀ s A, J s A → ∀ i, G A i → i < A.heap.size)
    (hY : ∀ pre x W1, J pre W1 → pre.length < b.length + 1 → YieldAt Fence.wide (n - 1) Tryz.prog l (encY x) W1 fun e W' => e = .returned (.bool true) ∧ J (pre ++ [x]) W' ∧ KpG G n₀ W1 W')
    (hL : ∀ pre y W1, J pre W1 → YieldAt Fence.wide (n - 1) Tryz.prog l (encL y) W1 fun e W' => e = .returned (.bool false) ∧ Jx y W')
    (W : World) (hBb : Whole W Bb 22 #[.slice A b.length c]) (hBg : ¬ G W Bb) (hLi : Lies W n₀ A (b.map bv)) (hn₀ : n₀ ≤ W.heap.size) (h0 : J [] W) :
    CallsIn Fence.wide n Tryz.prog 173 #[.func (.yield l) #[] #[], .pointer (some ⟨Bb, 0, none⟩)] W fun e W' => (∃ v, e = .returned v) ∧ ((∃ xs, FinB G b xs W' ∧ J xs W') ∨ (∃ y, FinL b y ∧ Jx y W')) := by
  refine callsIn_of_wp Tryz.func173 rfl trivial ?_ rfl
  simp only [Tryz.ntmps173, List.size_toArray, List.length_cons, List.length_nil, Nat.reduceAdd, Nat.reduceSub, Array.replicate_succ, Array.replicate_zero, List.push_toArray, List.append_toArray, List.nil_append, List.cons_append]
  gi_wp2
  refine wpIn_wide.2 (wp_scope_straight ((wpIn_wide (n := n)).1 ?_))
  refine wpIn_seq (wpIn_label ?_)
  simp only [Exit.then]
  gi_wp2
  gi_loopw [3] (fun at_ wr => ∃ (k : Nat) (ys : List Yf), at_ = .int .i64 k ∧ J ys wr ∧ KpG G n₀ W wr ∧ (∀ y ∈ ys, RowG G wr y.A y.c y.f.v) ∧ Hid (Cur b (ys.map Yf.key) k))
    (fun at_ _ => b.length + 1 - (intOf at_).toNat)
  case atStart => exact ⟨0, [], rfl, h0, KpG.refl _ _ _, by simp, cur_start b⟩
  case round =>
    obtain ⟨k, ys, rfl, hj, hkp, hrow, hrel⟩ := hrel
    have hW1 : Whole wr Bb 22 #[.slice A b.length c] := hkp.same _ _ _ _ hBg hBb
    have hcell : wr.cell? ⟨Bb, 0, none⟩ = some (.slice A b.length c) := by rw [Whole.cell hW1]; rfl
    have hgl := hJG _ _ hj
    -- what grows keeps all
    have hgr : ∀ B, Below wr.heap.size wr B → KpG G n₀ wr B ∧ J ys B ∧ ∀ i, G B i → i < wr.heap.size := fun B hB =>
      ⟨⟨hB.mono (Nat.le_trans hn₀ hkp.low.size), fun i _ _ _ _ hi => (hB.block i (Array.getElem?_eq_some_iff.1 hi).1).trans hi, fun i _ hi => hGg _ _ hgl (grown_of_below hB) i hi⟩, hJg _ _ _ hj (grown_of_below hB), fun i hi => hgl i (hGg _ _ hgl (grown_of_below hB) i hi)⟩
    rcases hrel.out with ⟨hk, hsp⟩ | ⟨hk, hyk, hlv⟩
    · have ht : ¬ ((k : Int) < (b.length : Int)) := by omega
      clear hrel
      gi_wp2
      go_end0
      exact ⟨⟨_, rfl⟩, .inl ⟨ys, ⟨by rw [hsp, List.map_map]; rfl, hrow⟩, hj⟩⟩
    · have ht : (k : Int) < (b.length : Int) := by omega
      have hLr := (hLi.below hkp.low).more (Nat.le_trans hn₀ hkp.low.size)
      cases hf : fa b k with
      | none =>
        have HF := Lib.hid (frameAt_none A c b k wr hLr hc hm hs (by omega) hf)
        clear hrel
        gi_wp2_with fail
        refine ⟨trivial, (callsIn_wide.2 HF.out).mono ?_⟩
        rintro e w2 ⟨rfl, b2⟩
        obtain ⟨k1, hj2, _⟩ := hgr _ (b2.alloc b2.size (.cells #[.int .u16 0, .slice none 0 0] 96))
        obtain ⟨fn, tmps, assign, body, hy, hR⟩ := hL ys (4, k) _ hj2
        simp only [encL, faultV, Int.cast_ofNat_Int] at hy
        simp only [faultV]
        gi_wp2_with fail
        refine hR.mono ?_
        rintro e w3 ⟨rfl, hx3⟩
        gi_wp2_with fail
        simp only [Exit.noGoto_normal]
        go_end0
        exact ⟨⟨_, rfl⟩, .inr ⟨(4, k), hlv.none hf, hx3⟩⟩
      | some f =>
        have hfl := fa_len hf
        have hf4 := frL_pos f
        have hle : k + frL f ≤ 10000000 := by omega
        cases hna : na b (k + frL f) with
        | none =>
          have HF := Lib.hid (frameAt_wrong A c b k f wr hLr hc hm hs hf hna)
          have hsp := hlv.wrong hf hna
          have hkn : k + frL f ≤ b.length := hfl
          generalize k + frL f = e5 at *
          clear hrel
          gi_wp2_with fail
          refine ⟨trivial, (callsIn_wide.2 HF.out).mono ?_⟩
          rintro e w2 ⟨rfl, b2⟩
          obtain ⟨k1, hj2, _⟩ := hgr _ (b2.alloc b2.size (.cells #[.int .u16 0, .slice none 0 0] 96))
          obtain ⟨fn, tmps, assign, body, hy, hR⟩ := hL ys (5, e5) _ hj2
          simp only [encL, faultV, Int.cast_ofNat_Int] at hy
          simp only [faultV]
          gi_wp2_with fail
          refine hR.mono ?_
          rintro e w3 ⟨rfl, hx3⟩
          gi_wp2_with fail
          simp only [Exit.noGoto_normal]
          go_end0
          exact ⟨⟨_, rfl⟩, .inr ⟨(5, e5), hsp, hx3⟩⟩
        | some k' =>
          have HF := Lib.hid (frameAt_some A c b k f k' wr hLr hc hm hs hf hna)
          obtain ⟨hcur, hk1, hk2⟩ := hlv.next hyk hf hna
          have HC := Lib.hid hcur
          clear hcur
          clear hrel
          gi_wp2_with fail
          refine ⟨trivial, (callsIn_wide.2 HF.out).mono ?_⟩
          rintro e w2 ⟨A', c', rfl, hown, b2⟩
          obtain ⟨k1, hj2, hg2⟩ := hgr _ (b2.alloc b2.size (.cells #[hv f.t, .slice A' f.v.length c'] 96))
          obtain ⟨fn, tmps, assign, body, hy, hR⟩ := hY ys ⟨k, f, A', c', hle⟩ _ hj2 (by simp at hyk; omega)
          have hro : RowG G (w2.alloc (.cells #[hv f.t, .slice A' f.v.length c'] 96)) A' c' f.v :=
            ⟨⟨_, hown.alloc _⟩, fun u hu hgu => by
              rcases hown.2 with ⟨h2, _⟩ | ⟨g, cap, cur, h2, h3, _⟩
              · simp only [Value.slice.injEq] at h2
                rw [h2.1] at hu
                cases hu
              · simp only [Value.slice.injEq] at h2
                rw [h2.1] at hu
                cases hu
                have h1 : g < wr.heap.size := hg2 _ hgu
                omega⟩
          have hbox := Whole.new w2 96 #[hv f.t, .slice A' f.v.length c']
          have q0 := hbox.cell 0
          have q1 := hbox.cell 1
          simp only [List.getElem?_toArray, List.getElem?_cons_zero, List.getElem?_cons_succ] at q0 q1
          simp only [encY] at hy
          gi_wp2_with fail
          refine hR.mono ?_
          rintro e w3 ⟨rfl, hj3, hk3⟩
          have hkp3 := (hkp.trans k1).trans hk3
          have hrow3 : ∀ y ∈ ys ++ [(⟨k, f, A', c', hle⟩ : Yf)], RowG G w3 y.A y.c y.f.v := fun y hy => by
            rcases List.mem_append.1 hy with h | h
            · exact ((hrow y h).keep k1).keep hk3
            · rw [List.mem_singleton.1 h]
              exact hro.keep hk3
          have HE2 : Hid (Cur b ((ys ++ [(⟨k, f, A', c', hle⟩ : Yf)]).map Yf.key) k') := by
            rw [Hid, List.map_append]
            exact HC.out
          gi_wp2_with fail
          go_roundw
          case rel =>
            exact ⟨k', _, rfl, hj3, hkp3, hrow3, HE2⟩
          case measure => simp [intOf]; omega
end Go.Proofs.YthkbcpbgoefanaaGreatDoor





namespace Go.Proofs.YthkbcpbgoefanaaGreatDoor
open Go.RowKit Go.Shelf

attribute [local go_sem] Oper.semAt_some

theorem frinfo : (Tryz.prog.info? 96).map (fun i => (i.zero, i.size, i.bytes)) = some (some (.agg #[.int .u16 0, .slice none 0 0]), 2, 32) := by kernel_rfl

/-- the blocks that the rounds may write: the list's variable, and the row that it holds -/
def SpG (Bl : Nat) (W : World) (i : Nat) : Prop := i = Bl ∨ ∃ (v : Value), Boxed W Bl 158 v ∧ v.ownBlock = some i
def ycells (ys : List Yf) : List Value := ys.flatMap fun y => [hv y.f.t, y.val]
theorem ycells_len (ys : List Yf) : (ycells ys).length = ys.length * 2 := by
  induction ys with
  | nil => rfl
  | cons y ys ih => simp only [ycells, List.flatMap_cons, List.length_append, List.length_cons, List.length_nil] at ih ⊢; rw [ih]; omega
theorem ycells_snoc (ys : List Yf) (y : Yf) : ycells (ys ++ [y]) = ycells ys ++ [hv y.f.t, y.val] := by simp [ycells]
structure SpI (w : World) (Bl : Nat) (ys : List Yf) (W : World) : Prop where
  box : ∃ v, Boxed W Bl 158 v ∧ W.ownsRow w.heap.size 96 2 v ys.length (ycells ys)
  r0 : Boxed W w.heap.size 158 (.slice none 0 0)
  r1 : Boxed W (w.heap.size + 1) 30 .nilIface
  low : Below w.heap.size w W

section
variable {w W W' A B : World} {Bl n₀ : Nat} {ys : List Yf}
theorem boxed_lt {i : Nat} {t : TypeId} {v : Value} (h : Boxed W i t v) : i < W.heap.size := (Array.getElem?_eq_some_iff.1 h).1
theorem boxed_uniq {i : Nat} {t : TypeId} {u v : Value} (h : Boxed W i t u) (k : Boxed W i t v) : u = v := by
  unfold Boxed at h k
  rw [h] at k
  simpa using k
theorem SpI.lt (h : SpI w Bl ys W) : ∀ i, SpG Bl W i → i < W.heap.size := by
  rintro i (rfl | ⟨v, hv, hi⟩)
  · obtain ⟨v, hv, _⟩ := h.box
    exact boxed_lt hv
  · obtain ⟨u, hu, hown⟩ := h.box
    rw [boxed_uniq hu hv] at hown
    exact (hown.lt i hi).2
theorem spg_same (hl : B.heap[Bl]? = A.heap[Bl]?) {i : Nat} (h : SpG Bl B i) : SpG Bl A i := by
  rcases h with h | ⟨v, hv, hi⟩
  · exact .inl h
  · exact .inr ⟨v, hl.symm.trans hv, hi⟩
theorem spg_grow (h : ∀ i, SpG Bl A i → i < A.heap.size) (hg : A.grownBy B none) {i : Nat} (hi : SpG Bl B i) : SpG Bl A i :=
  spg_same (hg.block Bl (h Bl (.inl rfl)) (by simp)) hi
theorem kpg_below (hb : Below A.heap.size A B) (hn : n₀ ≤ A.heap.size) (h : ∀ i, SpG Bl A i → i < A.heap.size) : KpG (SpG Bl) n₀ A B :=
  ⟨hb.mono hn, fun i _ _ _ _ hi => (hb.block i (Array.getElem?_eq_some_iff.1 hi).1).trans hi, fun _ _ hi => spg_grow h (grown_of_below hb) hi⟩
/-- what turns a block that is no cells, or grows, keeps all that is said of the two variables -/
theorem spi_own (X : Nat) (hX2 : w.heap.size ≤ X) : OwnFrom X (fun ys W => SpI w Bl ys W) := by
  rintro ys A B row ⟨⟨v, h1, h2⟩, h3, h5, h4⟩ hg hr
  have hne : ∀ (i : Nat) (cs : Array Value) (t : TypeId) (z : Nat × Nat), A.heap[i]? = some (.cells cs t z) → some i ≠ row := by
    intro i cs t z hi e
    obtain ⟨_, o, ho, hoc⟩ := hr i e.symm
    rw [hi] at ho
    cases ho
    cases hoc
  refine ⟨⟨v, h1.kept hg (hne _ _ _ _ h1), h2.kept hg ?_⟩, h3.kept hg (hne _ _ _ _ h3), h5.kept hg (hne _ _ _ _ h5), h4.grown hg h4.size (fun k e => by have := (hr k e).1; omega)⟩
  rcases h2.2 with ⟨rfl, _⟩ | ⟨g, cap, cur, rfl, _, hh, _⟩
  · exact .inl rfl
  · exact .inr (hne g _ _ _ hh)
theorem rowg_turn {row : Option Nat} (hg : A.grownBy B row) (hr : ∀ r, row = some r → Bl ≠ r ∧ ∃ o : Obj, A.heap[r]? = some o ∧ o.isCells = false) (hl : Bl < A.heap.size) {a : Option Addr} {c : Nat} {l : List UInt8}
    (h : RowG (SpG Bl) A a c l) : RowG (SpG Bl) B a c l := by
  obtain ⟨⟨base, h1⟩, h2⟩ := h
  refine ⟨⟨base, h1.kept hg ?_⟩, fun u hu hb => h2 u hu (spg_same (hg.block Bl hl (fun e => (hr Bl e.symm).1 rfl)) hb)⟩
  rcases h1.2 with ⟨h3, _⟩ | ⟨g, cap, cur, h3, _, hh, _⟩
  · rw [h3]; exact .inl rfl
  · rw [h3]
    refine .inr (fun e => ?_)
    obtain ⟨_, o, ho, hoc⟩ := hr g e.symm
    rw [hh] at ho
    cases ho
    cases hoc
end


theorem own_slice {w : World} {base e size n : Nat} {v : Value} {xs : List Value} (h : w.ownsRow base e size v n xs) : ∃ A c, v = .slice A n c := by
  rcases h.2 with ⟨rfl, rfl⟩ | ⟨g, cap, cur, rfl, _⟩
  · exact ⟨_, _, rfl⟩
  · exact ⟨_, _, rfl⟩
/-! ### what Split hands back -/
/-- how a call ends that hands back frames or an error -/
def Gives (w : World) (o : Out) (e : Ending) (w' : World) : Prop := Below w.heap.size w w' ∧
  match o with
  | .ok fs => ∃ A' c' vs, e = .returned (.tuple #[.slice A' fs.length c', .nilIface]) ∧ Frames w' w'.heap.size A' vs fs ∧ fs.length ≤ c' ∧ c' ≤ maxLen
  | .bad code k => e = .returned (.tuple #[.slice none 0 0, faultV code k])
theorem ycells_at (ys : List Yf) : ∀ (i : Nat) (y : Yf), ys[i]? = some y → (ycells ys)[i * 2]? = some (hv y.f.t) ∧ (ycells ys)[i * 2 + 1]? = some y.val := by
  induction ys with
  | nil => intro i y h; simp at h
  | cons z ys ih =>
    intro i y h
    have e : ycells (z :: ys) = hv z.f.t :: z.val :: ycells ys := rfl
    match i, h with
    | 0, h =>
      simp only [List.getElem?_cons_zero, Option.some.injEq] at h
      subst h
      exact ⟨rfl, rfl⟩
    | i + 1, h =>
      simp only [List.getElem?_cons_succ] at h
      have := ih i y h
      rw [e, show (i + 1) * 2 = i * 2 + 1 + 1 by omega]
      exact this
/-- the bytes of an element, in a row of their own, that a store of another type leaves as they are -/
def RowO (W : World) (A : Option Addr) (c : Nat) (l : List UInt8) : Prop := ∃ base, W.ownsRow base 5 1 (.slice A l.length c) l.length (l.map bv)
theorem RowO.set {W : World} {A : Option Addr} {c : Nat} {l : List UInt8} (h : RowO W A c l) {i : Nat} {t : TypeId} {v : Value} (hb : Boxed W i t v) (ht : t ≠ 5) (u : Value) : RowO (W.setCell ⟨i, 0, none⟩ u) A c l := by
  obtain ⟨base, h⟩ := h
  exact ⟨base, h.kept (grownBy_setCell' W i _) (.inr (hb.not_row ht h).symm)⟩
theorem RowO.put {W : World} {A : Option Addr} {c : Nat} {l : List UInt8} (h : RowO W A c l) {D : Nat} {o : Obj} (o' : Obj) (hD : W.heap[D]? = some o) (ho : o.isCells = false) : RowO (W.putObj D o') A c l := by
  obtain ⟨base, h⟩ := h
  exact ⟨base, ownsRow_putObj h _ hD ho⟩
theorem RowO.isB {W : World} {a : Option Addr} {c : Nat} {l : List UInt8} (h : RowO W a c l) : IsB W W.heap.size (.slice a l.length c) l := by
  obtain ⟨base, h1⟩ := h
  have := own_cap h1
  exact ⟨a, c, rfl, Lies.own h1, this.2.1, this.2.2⟩
theorem frames_of {ys : List Yf} {W : World} {v : Value} {n₀ : Nat} (hf : ∀ y ∈ ys, RowO W y.A y.c y.f.v) (hown : W.ownsRow n₀ 96 2 v ys.length (ycells ys)) :
    ∃ A' c', v = .slice A' (ys.map Yf.f).length c' ∧ Frames W W.heap.size A' (ycells ys) (ys.map Yf.f) ∧ (ys.map Yf.f).length ≤ c' ∧ c' ≤ maxLen := by
  have hl : (ys.map Yf.f).length = ys.length := List.length_map _
  have heach : ∀ (i : Nat) (f : Fr), (ys.map Yf.f)[i]? = some f → ∃ u, (ycells ys)[i * 2]? = some (hv f.t) ∧ (ycells ys)[i * 2 + 1]? = some u ∧ IsB W W.heap.size u f.v := by
    intro i f h
    rw [List.getElem?_map] at h
    obtain ⟨y, h1, rfl⟩ := Option.map_eq_some_iff.1 h
    obtain ⟨h2, h3⟩ := ycells_at ys i y h1
    exact ⟨_, h2, h3, (hf y (List.mem_of_getElem? h1)).isB⟩
  rw [hl]
  rcases hown.2 with ⟨rfl, h0⟩ | ⟨g, cap, cur, rfl, h2, h3, h4, h5, _⟩
  · have hy : ys = [] := List.eq_nil_of_length_eq_zero h0
    refine ⟨none, 0, by rw [h0], ⟨?_, by rw [ycells_len, hl], heach⟩, by omega, Nat.zero_le _⟩
    subst hy
    exact Lies.nil
  · exact ⟨_, cap, rfl, ⟨fun _ => ⟨_, rfl, (Array.getElem?_eq_some_iff.1 h3).1, hown.cells (g := g) rfl⟩, by rw [ycells_len, hl], heach⟩, h4, h5⟩

/-! ### results that lie in two cells -/
theorem run_loadVar_one {P : Program} (w : World) (g : Nat) (t ty : TypeId) (v : Value) (d : TypeDesc) (h : Boxed w g t v) (hu : P.underlying ty = some d) (hd : (match d with | .struct _ | .array _ _ => true | _ => false) = false) :
    (loadVar ty ⟨g, 0, none⟩).run P w = .ok v w := by
  have hagg : (isAgg ty).run P w = .ok false w := by
    unfold isAgg
    rw [Sem.run_bind, run_underlying hu w]
    cases d <;> simp_all
  have hc := h.cell
  simp [loadVar, Sem.run_bind, hagg, hc]
theorem results_cell2 {P : Program} {fn : Func} {p q : Tmp} {ty ty2 : TypeId} (h : fn.results = #[.cell p ty, .cell q ty2]) (tmps : Array Value) (w : World) (g g2 : Nat) (t t2 : TypeId) (v v2 : Value) (d d2 : TypeDesc)
    (hp : tmps.getD p undef = .pointer (some ⟨g, 0, none⟩)) (hq : tmps.getD q undef = .pointer (some ⟨g2, 0, none⟩)) (hg : Boxed w g t v) (hg2 : Boxed w g2 t2 v2)
    (hu : P.underlying ty = some d) (hd : (match d with | .struct _ | .array _ _ => true | _ => false) = false) (hu2 : P.underlying ty2 = some d2) (hd2 : (match d2 with | .struct _ | .array _ _ => true | _ => false) = false) :
    (results fn tmps).run P w = .ok (.tuple #[v, v2]) w := by
  have hp' : tmps[p]?.getD undef = .pointer (some ⟨g, 0, none⟩) := by simpa using hp
  have hq' : tmps[q]?.getD undef = .pointer (some ⟨g2, 0, none⟩) := by simpa using hq
  simp only [results, h]
  simp [Result.andThen, hp', hq', asAddr, run_loadVar_one w g t ty v d hg hu hd, run_loadVar_one w g2 t2 ty2 v2 d2 hg2 hu2 hd2]

theorem places_in (n : Nat) (A : Option Addr) (m c : Nat) (w : World) :
    CallsIn Fence.wide n Tryz.prog 164 #[.slice A m c] w fun e w' => e = .returned (.func (.func 173) #[] #[.pointer (some ⟨w.heap.size, 0, none⟩)]) ∧
      w' = w.alloc (.cells #[.slice A m c] 22) := by
  refine callsIn_of_wp Tryz.func164 rfl trivial ?_ rfl
  simp only [Tryz.ntmps164, List.size_toArray, List.length_cons, List.length_nil, Nat.reduceAdd, Nat.reduceSub, Array.replicate_succ, Array.replicate_zero, List.push_toArray, List.append_toArray, List.nil_append, List.cons_append]
  gi_wp2
  go_ret
  exact ⟨rfl, rfl⟩

/-- what the last round has left -/
def SpX (w : World) (e : Nat × Nat) (W : World) : Prop := Below w.heap.size w W ∧ Boxed W w.heap.size 158 (.slice none 0 0) ∧ Boxed W (w.heap.size + 1) 30 (faultV (e.1 : Int) (e.2 : Int))
theorem spx_own (w : World) (X : Nat) (hX : w.heap.size ≤ X) : OwnFrom X (SpX w) := by
  rintro e A B row ⟨h1, h2, h3⟩ hg hr
  have hne : ∀ (i : Nat) (cs : Array Value) (t : TypeId) (z : Nat × Nat), A.heap[i]? = some (.cells cs t z) → some i ≠ row := by
    intro i cs t z hi e
    obtain ⟨_, o, ho, hoc⟩ := hr i e.symm
    rw [hi] at ho
    cases ho
    cases hoc
  exact ⟨h1.grown hg h1.size (fun k e => by have := (hr k e).1; omega), h2.kept hg (hne _ _ _ _ h2), h3.kept hg (hne _ _ _ _ h3)⟩

set_option maxRecDepth 100000 in
set_option maxHeartbeats 4000000 in
theorem split_any (A : Option Addr) (c : Nat) (b : List UInt8) (w : World) (h : Lies w w.heap.size A (b.map bv)) (hc : b.length ≤ c) (hm : c ≤ maxLen) (hs : b.length ≤ 10000000) :
    Calls Tryz.prog 142 #[.slice A b.length c] w (Gives w (spl b)) := by
  refine (callsIn_wide (n := 6)).1 ?_
  refine callsIn_of_wp_marks Tryz.func142 rfl trivial ?_ rfl
  simp only [Tryz.ntmps142, List.size_toArray, List.length_cons, List.length_nil, Nat.reduceAdd, Nat.reduceSub, Array.replicate_succ, Array.replicate_zero, List.push_toArray, List.append_toArray, List.nil_append, List.cons_append]
  gi_wp2_with (refine ⟨trivial, ?_⟩; gi_at_call 164; refine (places_in _ _ _ _ _).mono ?_; rintro e w' ⟨rfl, rfl⟩)
  have hB0 : Below w.heap.size w ((((w.alloc (.cells #[.slice none 0 0] 158)).alloc (.cells #[.nilIface] 30)).alloc (.cells #[.slice none 0 0] 158)).alloc (.cells #[.slice A b.length c] 22)) :=
    ((((Below.refl _ w).alloc (Nat.le_refl _) _).alloc (by simp) _).alloc (by simp; omega) _).alloc (by simp; omega) _
  have x0 := (((Boxed.new w 158 (.slice none 0 0)).alloc (.cells #[.nilIface] 30)).alloc (.cells #[.slice none 0 0] 158)).alloc (.cells #[.slice A b.length c] 22)
  have x1 := ((Boxed.new (w.alloc (.cells #[.slice none 0 0] 158)) 30 .nilIface).alloc (.cells #[.slice none 0 0] 158)).alloc (.cells #[.slice A b.length c] 22)
  have x2 := (Boxed.new ((w.alloc (.cells #[.slice none 0 0] 158)).alloc (.cells #[.nilIface] 30)) 158 (.slice none 0 0)).alloc (.cells #[.slice A b.length c] 22)
  have x3 := Boxed.new (((w.alloc (.cells #[.slice none 0 0] 158)).alloc (.cells #[.nilIface] 30)).alloc (.cells #[.slice none 0 0] 158)) 22 (.slice A b.length c)
  simp only [World.size_alloc] at x1 x2 x3
  have hsz : ((((w.alloc (.cells #[.slice none 0 0] 158)).alloc (.cells #[.nilIface] 30)).alloc (.cells #[.slice none 0 0] 158)).alloc (.cells #[.slice A b.length c] 22)).heap.size = w.heap.size + 1 + 1 + 1 + 1 := by simp
  generalize (((w.alloc (.cells #[.slice none 0 0] 158)).alloc (.cells #[.nilIface] 30)).alloc (.cells #[.slice none 0 0] 158)).alloc (.cells #[.slice A b.length c] 22) = W0 at *
  have h0 : SpI w (w.heap.size + 1 + 1) [] W0 := ⟨⟨_, x2, World.ownsRow_nil _ _ _ _⟩, x0, x1, hB0⟩
  refine each_or (F := Fence.wide) (n := 6) (P := Tryz.prog) rfl (by omega) (gf := 173) (lb := #[.pointer (some ⟨w.heap.size + 1 + 1 + 1, 0, none⟩)]) rfl trivial (enters_of Tryz.func173 (by kernel_rfl) rfl)
    (encs := encY) (encL := encL) (Kp := KpG (SpG (w.heap.size + 1 + 1)) w.heap.size) (G := SpG (w.heap.size + 1 + 1)) (Fin := fun ys W => FinB (SpG (w.heap.size + 1 + 1)) b ys W ∧ w.heap.size + 1 + 1 < W.heap.size) (FinL := FinL b) (N := b.length + 1) ?hseq (fun _ => rfl) (fun _ => rfl)
    KpG.trans ?hKb (fun ys W => SpI w (w.heap.size + 1 + 1) ys W) (spi_own _ (by omega)) (SpX w) (spx_own w _ (by omega)) ?hF h0 (fun _ _ h => h.lt)
    (fun pre x a' W => ∃ g, a' = { tmps := #[.slice A b.length c, undef, .pointer (some ⟨w.heap.size, 0, none⟩), .pointer (some ⟨w.heap.size + 1, 0, none⟩), .pointer (some ⟨w.heap.size + 1 + 1, 0, none⟩), .pointer (some ⟨g, 0, none⟩), .nilIface, .slice A b.length c, .func (.func 173) #[] #[.pointer (some ⟨w.heap.size + 1 + 1 + 1, 0, none⟩)], .agg #[.int .i64 (x.k : Int), hv x.f.t, .slice x.A x.f.v.length x.c], .nilIface, undef, undef, undef, undef, undef, undef, undef, undef, undef], defers := [] } ∧
      Whole W g 230 #[.int .i64 (x.k : Int), hv x.f.t, .slice x.A x.f.v.length x.c] ∧ SpI w (w.heap.size + 1 + 1) pre W ∧ ¬ SpG (w.heap.size + 1 + 1) W g) ?hAx
    (fun pre y a' W => ∃ g, a' = { tmps := #[.slice A b.length c, undef, .pointer (some ⟨w.heap.size, 0, none⟩), .pointer (some ⟨w.heap.size + 1, 0, none⟩), .pointer (some ⟨w.heap.size + 1 + 1, 0, none⟩), .pointer (some ⟨g, 0, none⟩), faultV (y.1 : Int) (y.2 : Int), .slice A b.length c, .func (.func 173) #[] #[.pointer (some ⟨w.heap.size + 1 + 1 + 1, 0, none⟩)], .agg #[.int .i64 0, .int .u16 0, .slice none 0 0], faultV (y.1 : Int) (y.2 : Int), undef, undef, undef, undef, undef, undef, undef, undef, undef], defers := [] } ∧
      SpI w (w.heap.size + 1 + 1) pre W) ?hAl ?assign ?assignL ?body ?bodyL ?done ?stop
  case hseq =>
    intro l J Jx W hW hJg hJG hY hL hj
    refine CallsIn.mono (places1_in 5 (by omega) l (w.heap.size + 1 + 1 + 1) w.heap.size A c b hc hm hs (SpG (w.heap.size + 1 + 1)) (fun A' B' ha hg i hi => spg_grow ha hg hi) J Jx hJg hJG hY hL W (Whole.below x3 hW (by omega)) ?_ (h.below (hB0.trans (hW.mono hB0.size))) (Nat.le_trans hB0.size hW.size) hj) (fun e W' h => by
      obtain ⟨h1, ⟨xs, h2, h3⟩ | h2⟩ := h
      · exact ⟨h1, .inl ⟨xs, ⟨h2, hJG _ _ h3 _ (.inl rfl)⟩, h3⟩⟩
      · exact ⟨h1, .inr h2⟩)
    rintro (h1 | ⟨v, hv, hi⟩)
    · omega
    · have hx : Boxed W (w.heap.size + 1 + 1) 158 (.slice none 0 0) := Whole.below x2 hW (by omega)
      rw [← boxed_uniq hx hv] at hi
      cases hi
  case hKb =>
    intro W l o o' hl ho hoc
    refine ⟨(Below.refl _ W).grown (grownBy_putObj' W l o') (by have := (Array.getElem?_eq_some_iff.1 ho).1; omega) (fun k e => by cases e; omega), fun i cs t z _ hi => ?_, fun i _ hi => spg_same (World.putObj_heap_other (by omega)) hi⟩
    rw [World.putObj_heap_other (fun e => ?_)]
    · exact hi
    · subst e
      rw [hi] at ho
      cases ho
      cases hoc
  case hF =>
    rintro ys X Y row ⟨⟨hk, hy⟩, hlt⟩ hg hr
    exact ⟨⟨hk, fun y hm => rowg_turn hg (fun r e => ⟨by have := (hr r e).1; omega, (hr r e).2⟩) hlt (hy y hm)⟩, Nat.lt_of_lt_of_le hlt hg.size⟩
  case hAx =>
    rintro pre x a' s X Y row ⟨g, ha, hw, hi, hn⟩ hg hr
    refine ⟨g, ha, (hg.block g hw.lt (fun e => ?_)).trans hw, spi_own _ (by omega) _ _ _ _ hi hg hr, fun h => hn (spg_same (hg.block _ (hi.lt _ (.inl rfl)) (fun e => ?_)) h)⟩
    · obtain ⟨_, o, ho, hoc⟩ := hr g e.symm
      unfold Whole at hw
      rw [hw] at ho
      cases ho
      cases hoc
    · have := (hr _ e.symm).1
      omega
  case hAl =>
    rintro pre y a' s X Y row ⟨g, ha, hi⟩ hg hr
    exact ⟨g, ha, spi_own _ (by omega) _ _ _ _ hi hg hr⟩
  case assign =>
    intro l pre x W K hi hK
    have hk : ∀ o, KeepsFrom W0.heap.size W (W.alloc o) := fun o => (KeepsOthers.alloc W o).from _
    simp only [encY]
    gi_wp2
    have hb := (Below.refl W.heap.size W).alloc (Nat.le_refl _) (.cells #[.int .i64 (x.k : Int), hv x.f.t, .slice x.A x.f.v.length x.c] 230)
    refine hK _ _ (hk _) (kpg_below hb hi.low.size hi.lt) ⟨W.heap.size, rfl, Whole.new _ _ _, spi_own _ (Nat.le_refl _) _ _ _ none hi (grown_of_below hb) (fun _ e => by cases e), fun hg => ?_⟩
    exact Nat.lt_irrefl _ (hi.lt _ (spg_grow hi.lt (grown_of_below hb) hg))
  case assignL =>
    intro l pre y W K hi hK
    have hk : ∀ o, KeepsFrom W0.heap.size W (W.alloc o) := fun o => (KeepsOthers.alloc W o).from _
    simp only [encL]
    gi_wp2
    have hb := (Below.refl W.heap.size W).alloc (Nat.le_refl _) (.cells #[.int .i64 0, .int .u16 0, .slice none 0 0] 230)
    exact hK _ _ (hk _) ⟨W.heap.size, rfl, spi_own _ (Nat.le_refl _) _ _ _ none hi (grown_of_below hb) (fun _ e => by cases e)⟩
  case body =>
    rintro l pre x a' W ⟨g, rfl, hw, hi, hn⟩ hlen
    obtain ⟨v, hv1, hrow⟩ := hi.box
    have hc0 := hv1.cell
    have hg1 : W.cell? ⟨g, 1, none⟩ = some (hv x.f.t) := by rw [hw.cell]; rfl
    have hg2 : W.cell? ⟨g, 2, none⟩ = some (.slice x.A x.f.v.length x.c) := by rw [hw.cell]; rfl
    have hle := x.le
    have hsize := hi.low.size
    have hgN : g ≠ w.heap.size + 1 + 1 := fun e => hn (.inl e)
    have hgr : v.ownBlock ≠ some g := fun e => hn (.inr ⟨v, hv1, e⟩)
    have hnew : ∀ j u, [hv x.f.t, Value.slice x.A x.f.v.length x.c][j]? = some u → (W.alloc (.cells #[hv x.f.t, .slice x.A x.f.v.length x.c] 96)).cell? ((⟨W.heap.size, 0, none⟩ : Addr).add j) = some u := fun j u hu => by
      rw [add_row, (Whole.new W 96 #[hv x.f.t, .slice x.A x.f.v.length x.c]).cell]
      simpa using hu
    gi_wp2_with (gi_at_builtin; refine wpListIn_append_told _ rfl (.tmp 14) (.tmp 17) 158 rfl w.heap.size 96 _ 2 32 Tryz.underlying158 frinfo rfl (by omega) _ _ _ rfl (hrow.alloc _) _ 1 1 (by omega) [hv x.f.t, .slice x.A x.f.v.length x.c] rfl rfl hnew (by intro u hu; simp at hu; rcases hu with rfl | rfl <;> rfl) (by unfold maxLen; omega) (by omega) (by simp; omega) ?_; intro v' w1 hown' hgrow' hblk; obtain ⟨A1, c1, rfl⟩ := own_slice hown'; have hv1' := (hv1.alloc (.cells #[hv x.f.t, .slice x.A x.f.v.length x.c] 96)).kept hgrow' (hv1.not_row (by decide) hrow); have d0 := hv1'.cell; have d1 := hv1'.frozen)
    have hle' : x.k + (4 + x.f.v.length) ≤ 10000000 := hle
    have hbx2 : Boxed (w1.setCell ⟨w.heap.size + 1 + 1, 0, none⟩ (.slice A1 (pre.length + 1) c1)) (w.heap.size + 1 + 1) 158 (.slice A1 (pre.length + 1) c1) := hv1'.set _
    have hrw2 : (w1.setCell ⟨w.heap.size + 1 + 1, 0, none⟩ (.slice A1 (pre.length + 1) c1)).ownsRow w.heap.size 96 2 (.slice A1 (pre.length + 1) c1) (pre.length + 1) (ycells pre ++ [hv x.f.t, .slice x.A x.f.v.length x.c]) :=
      hown'.kept (grownBy_setCell' w1 (w.heap.size + 1 + 1) _) (.inr (hv1'.not_row (by decide) hown').symm)
    have hr02 : Boxed (w1.setCell ⟨w.heap.size + 1 + 1, 0, none⟩ (.slice A1 (pre.length + 1) c1)) w.heap.size 158 (.slice none 0 0) :=
      ((hi.r0.alloc (.cells #[hv x.f.t, .slice x.A x.f.v.length x.c] 96)).kept hgrow' (hi.r0.not_row (by decide) hrow)).other (by omega) _
    have hr12 : Boxed (w1.setCell ⟨w.heap.size + 1 + 1, 0, none⟩ (.slice A1 (pre.length + 1) c1)) (w.heap.size + 1) 30 .nilIface :=
      ((hi.r1.alloc (.cells #[hv x.f.t, .slice x.A x.f.v.length x.c] 96)).kept hgrow' (hi.r1.not_row (by decide) hrow)).other (by omega) _
    have hsz1 := hgrow'.size
    simp only [World.size_alloc] at hsz1
    have hsame : ∀ i, i < W.heap.size → i ≠ w.heap.size + 1 + 1 → some i ≠ v.ownBlock → (w1.setCell ⟨w.heap.size + 1 + 1, 0, none⟩ (.slice A1 (pre.length + 1) c1)).heap[i]? = W.heap[i]? := fun i h1 h2 h3 =>
      ((grownBy_setCell' w1 (w.heap.size + 1 + 1) _).block i (by omega) (fun e => h2 (by simpa using e))).trans ((hgrow'.block i (by simp; omega) h3).trans (heap_alloc_old W _ h1))
    have hlowW : Below w.heap.size W (w1.setCell ⟨w.heap.size + 1 + 1, 0, none⟩ (.slice A1 (pre.length + 1) c1)) :=
      (((Below.refl _ W).alloc hi.low.size _).grown hgrow' (by simp; omega) (fun k e => (hrow.lt k e).1)).setCell (by simp; omega) _
    have hblk2 : ∀ i, i < W.heap.size → (Value.slice A1 (pre.length + 1) c1).ownBlock = some i → v.ownBlock = some i := fun i h1 h2 => by
      rcases hblk with h3 | ⟨h3, _⟩
      · rw [h3] at h2
        simp only [Option.some.injEq, World.size_alloc] at h2
        omega
      · exact h3.symm.trans h2
    generalize w1.setCell ⟨w.heap.size + 1 + 1, 0, none⟩ (.slice A1 (pre.length + 1) c1) = W2 at *
    refine ⟨⟨hlowW.size, fun k o _ hk ho => ?_⟩, ⟨hlowW, fun i cs t z hg hi2 => ?_, fun i h1 h2 => ?_⟩, ⟨⟨_, hbx2, ?_⟩, hr02, hr12, hi.low.trans hlowW⟩⟩
    · refine (hsame k (Array.getElem?_eq_some_iff.1 hk).1 ?_ ?_).trans hk
      · rintro rfl
        rw [show W.heap[w.heap.size + 1 + 1]? = _ from hv1] at hk
        cases hk
        cases ho
      · intro e
        rcases hrow.2 with ⟨rfl, _⟩ | ⟨q, cap, cur, rfl, _, hq, _⟩
        · cases e
        · simp only [Value.ownBlock, Option.some.injEq] at e
          rw [e, hq] at hk
          cases hk
          cases ho
    · exact (hsame i (Array.getElem?_eq_some_iff.1 hi2).1 (fun e => hg (.inl e)) (fun e => hg (.inr ⟨v, hv1, e.symm⟩))).trans hi2
    · rcases h2 with h2 | ⟨u, hu, hui⟩
      · exact .inl h2
      · rw [← boxed_uniq hbx2 hu] at hui
        exact .inr ⟨v, hv1, hblk2 i h1 hui⟩
    · rw [List.length_append, ycells_snoc]
      exact hrw2
  case bodyL =>
    rintro l pre y a' W ⟨g, rfl, hi⟩
    have h0c := hi.r0.cell
    have h0f := hi.r0.frozen
    have h1c := hi.r1.cell
    have h1f := hi.r1.frozen
    simp only [faultV]
    gi_wp2
    have k1 := (hi.r0.set (.slice none 0 0)).other (B' := w.heap.size + 1) (by omega) (faultV (y.1 : Int) (y.2 : Int))
    have k2 := (hi.r1.other (B' := w.heap.size) (by omega) (.slice none 0 0)).set (faultV (y.1 : Int) (y.2 : Int))
    exact ⟨((KeepsOthers.setCell _ _ _).trans (KeepsOthers.setCell _ _ _)).from _, (hi.low.setCell (Nat.le_refl _) _).setCell (by simp) _, k1, k2⟩
  case done =>
    rintro D ys W hD ⟨hF, hlt⟩ hi hK
    obtain ⟨v, hv1, hrow⟩ := hi.box
    obtain ⟨A1, c1, rfl⟩ := own_slice hrow
    have hc0 := hv1.cell
    have h0c := hi.r0.cell
    have h0f := hi.r0.frozen
    have h1c := hi.r1.cell
    have h1f := hi.r1.frozen
    have hr1 : Boxed (W.setCell ⟨w.heap.size, 0, none⟩ (.slice A1 ys.length c1)) (w.heap.size + 1) 30 .nilIface := hi.r1.other (by omega) _
    have hrow2 : (W.setCell ⟨w.heap.size, 0, none⟩ (.slice A1 ys.length c1)).ownsRow w.heap.size 96 2 (.slice A1 ys.length c1) ys.length (ycells ys) :=
      hrow.kept (grownBy_setCell' W w.heap.size _) (.inr (hi.r0.not_row (by decide) hrow).symm)
    have hrow3 := hrow2.kept (grownBy_setCell' _ (w.heap.size + 1) .nilIface) (.inr (hr1.not_row (by decide) hrow2).symm)
    have hO : ∀ y ∈ ys, RowO ((W.setCell ⟨w.heap.size, 0, none⟩ (.slice A1 ys.length c1)).setCell ⟨w.heap.size + 1, 0, none⟩ .nilIface) y.A y.c y.f.v := fun y hy =>
      (RowO.set (hF.2 y hy).1 hi.r0 (by decide) _).set hr1 (by decide) _
    have k0 := (hi.r0.set (.slice A1 ys.length c1)).other (B' := w.heap.size + 1) (by omega) .nilIface
    have k1 := hr1.set .nilIface
    have hlow := (hi.low.setCell (p := ⟨w.heap.size, 0, none⟩) (Nat.le_refl _) (.slice A1 ys.length c1)).setCell (p := ⟨w.heap.size + 1, 0, none⟩) (by simp) .nilIface
    have hK2 : ((W.setCell ⟨w.heap.size, 0, none⟩ (.slice A1 ys.length c1)).setCell ⟨w.heap.size + 1, 0, none⟩ .nilIface).heap[D]? = some (.deferred (some [])) :=
      (((KeepsOthers.setCell W ⟨w.heap.size, 0, none⟩ (.slice A1 ys.length c1)).trans (KeepsOthers.setCell _ ⟨w.heap.size + 1, 0, none⟩ .nilIface)).same D _ hK rfl)
    gi_wp2
    generalize (W.setCell ⟨w.heap.size, 0, none⟩ (.slice A1 ys.length c1)).setCell ⟨w.heap.size + 1, 0, none⟩ .nilIface = W2 at *
    refine ⟨by simp, .inl ⟨_, _, rfl, run_takeDeferred hK2, ?_⟩⟩
    refine ⟨_, results_cell2 rfl _ _ w.heap.size (w.heap.size + 1) 158 30 _ _ _ _ rfl rfl ((World.putObj_heap_other (by omega)).trans k0) ((World.putObj_heap_other (by omega)).trans k1) Tryz.underlying158 rfl Tryz.underlying30 rfl, ?_⟩
    rw [show spl b = _ from hF.1]
    obtain ⟨A2, c2, h1, h2, h3, h4⟩ := frames_of (fun y hy => (hO y hy).put (.deferred none) hK2 rfl) (ownsRow_putObj hrow3 (.deferred none) hK2 rfl)
    refine ⟨hlow.grown (grownBy_putObj' W2 D _) hlow.size (fun k e => by cases e; omega), A2, c2, _, ?_, h2, h3, h4⟩
    rw [← h1]
  case stop =>
    rintro D y W hD hF ⟨hlow, hx0, hx1⟩ hK
    gi_wp2
    refine ⟨by simp, .inl ⟨_, _, rfl, run_takeDeferred hK, ?_⟩⟩
    refine ⟨_, results_cell2 rfl _ _ w.heap.size (w.heap.size + 1) 158 30 _ _ _ _ rfl rfl ((World.putObj_heap_other (by omega)).trans hx0) ((World.putObj_heap_other (by omega)).trans hx1) Tryz.underlying158 rfl Tryz.underlying30 rfl, ?_⟩
    rw [show spl b = _ from hF]
    exact ⟨hlow.grown (grownBy_putObj' W D _) hlow.size (fun k e => by cases e; omega), rfl⟩
end Go.Proofs.YthkbcpbgoefanaaGreatDoor




namespace Go.Proofs.YthkbcpbgoefanaaGreatDoor
open Go.RowKit

theorem numOf_be2 (x : UInt32) (h : x.toNat < 65536) : numOf (be 2 x) = x.toNat := by
  simp [be, List.range, List.range.loop, numOf, numStep, beByte]
  omega
theorem be2_len (x : UInt32) : (be 2 x).length = 2 := be_len 2 x
theorem headB_eq (t : UInt16) (n : Nat) : headB t n = be 2 (u32of t.toNat) ++ be 2 (u32of (4 + n)) := by simp [headB, puts]
theorem u16_u32 (t : UInt16) : u16of (u32of t.toNat).toNat = t := by
  have := t.toNat_lt
  rw [u32of_toNat (by omega)]
  exact UInt16.ofNat_toNat
theorem fa_mid (P R : List UInt8) (f : Fr) (hf : Fit f) : fa (P ++ frB f ++ R) P.length = some f := by
  unfold Fit at hf
  have ht := f.t.toNat_lt
  have e1 : ((P ++ frB f ++ R).drop P.length) = frB f ++ R := by rw [List.append_assoc, List.drop_left]
  have e2 : ((P ++ frB f ++ R).drop P.length).take 2 = be 2 (u32of f.t.toNat) := by
    rw [e1]
    unfold frB
    rw [headB_eq, List.append_assoc, List.append_assoc]
    exact List.take_left' (be2_len _)
  have e3 : ((P ++ frB f ++ R).drop (P.length + 2)).take 2 = be 2 (u32of (4 + f.v.length)) := by
    rw [← List.drop_drop, e1]
    unfold frB
    rw [headB_eq, List.append_assoc, List.append_assoc, List.drop_left' (be2_len _)]
    exact List.take_left' (be2_len _)
  have e4 : (P ++ frB f ++ R).drop (P.length + 4) = f.v ++ R := by
    rw [← List.drop_drop, e1]
    unfold frB
    rw [List.append_assoc]
    exact List.drop_left' (headB_len _ _)
  have hl : (P ++ frB f ++ R).length = P.length + (4 + f.v.length) + R.length := by
    rw [List.length_append, List.length_append, frB_len]
    rfl
  have n1 : numOf (be 2 (u32of f.t.toNat)) = (u32of f.t.toNat).toNat := numOf_be2 _ (by rw [u32of_toNat (by omega)]; omega)
  have n2 : numOf (be 2 (u32of (4 + f.v.length))) = 4 + f.v.length := by rw [numOf_be2 _ (by rw [u32of_toNat (by omega)]; omega), u32of_toNat (by omega)]
  unfold fa
  rw [e2, e3, e4, n1, n2, if_neg (by omega), if_neg (by omega), u16_u32]
  congr 2
  rw [show 4 + f.v.length - 4 = f.v.length by omega]
  exact List.take_left' rfl
theorem zeroB_rep (n : Nat) : zeroB (List.replicate n 0) = true := by
  unfold zeroB
  rw [List.all_eq_true]
  intro x hx
  rw [List.eq_of_mem_replicate hx]
  rfl
theorem nx_mid (Q R : List UInt8) (hR : R ≠ []) : nx (padB Q ++ R) Q.length = some (padB Q).length := by
  have h1 := padB_len Q
  have h2 : 0 < R.length := List.length_pos_iff.2 hR
  unfold nx
  rw [if_pos, h1]
  refine ⟨⟨by omega, ?_, ?_⟩, ?_⟩
  · rw [Int.toNat_natCast, List.length_append, h1]; omega
  · rw [Int.toNat_natCast]
    unfold padB
    rw [List.append_assoc, List.drop_left, List.take_left' (by simp)]
    exact zeroB_rep _
  · rw [List.length_append, h1]; omega
theorem kend_cons (x : Nat × Fr) {l : List (Nat × Fr)} (h : l ≠ []) : kend (x :: l) = kend l := by
  unfold kend
  rw [List.getLast?_cons_of_ne_nil h]
theorem frB_ne (f : Fr) : frB f ≠ [] := fun e => by have := congrArg List.length e; rw [frB_len] at this; unfold frL at this; simp at this
theorem piece_ne (n i : Nat) (f : Fr) : piece n i f ≠ [] := by
  unfold piece
  split
  · intro e
    have := congrArg List.length e
    rw [padB_len, frB_len] at this
    unfold up frL at this
    simp at this
  · exact frB_ne f
theorem rest_ne (fs : List Fr) (k : Nat) (h : k < fs.length) : ((pcs fs).drop k).flatten ≠ [] := by
  have h1 := pcs_at (List.getElem?_eq_getElem h)
  have h2 : k < (pcs fs).length := by rw [pcs_len]; exact h
  rw [List.drop_eq_getElem_cons h2, List.flatten_cons]
  intro e
  have h3 := (List.append_eq_nil_iff.1 e).1
  rw [List.getElem?_eq_getElem h2] at h1
  rw [Option.some.inj h1] at h3
  exact piece_ne _ _ _ h3
theorem jn_at (fs : List Fr) (k : Nat) (h : k < fs.length) : jn fs = padB (jn (fs.take k)) ++ ((pcs fs).drop k).flatten := by
  rw [← pcs_all]
  conv => lhs; rw [← List.take_append_drop k (pcs fs), List.flatten_append, pcs_flat fs k (by omega), if_pos h]
theorem yla_jn (fs : List Fr) (hf : ∀ f ∈ fs, Fit f) : ∀ m k, k + (m + 1) = fs.length →
    (yla (jn fs) (padB (jn (fs.take k))).length).map Prod.snd = fs.drop k ∧ yla (jn fs) (padB (jn (fs.take k))).length ≠ [] ∧ kend (yla (jn fs) (padB (jn (fs.take k))).length) = (jn fs).length := by
  intro m
  induction m with
  | zero =>
    intro k hk
    have hlt : k < fs.length := by omega
    have hg := List.getElem?_eq_getElem hlt
    have e1 : jn fs = padB (jn (fs.take k)) ++ frB fs[k] := by
      have := jn_take hg
      rwa [List.take_of_length_le (by omega)] at this
    have h1 : fa (jn fs) (padB (jn (fs.take k))).length = some fs[k] := by
      have := fa_mid (padB (jn (fs.take k))) [] fs[k] (hf _ (List.getElem_mem hlt))
      rwa [List.append_nil, ← e1] at this
    have h2 : (padB (jn (fs.take k))).length + frL fs[k] = (jn fs).length := by rw [e1, List.length_append, frB_len]
    have h3 : nx (jn fs) ((padB (jn (fs.take k))).length + frL fs[k]) = none := by rw [h2]; exact nx_end _
    rw [yla_last h1 h3]
    refine ⟨?_, by simp, by simpa [kend] using h2⟩
    rw [List.drop_eq_getElem_cons hlt, List.drop_of_length_le (by omega)]
    rfl
  | succ m ih =>
    intro k hk
    have hlt : k < fs.length := by omega
    have hlt2 : k + 1 < fs.length := by omega
    have hg := List.getElem?_eq_getElem hlt
    have e0 : padB (jn (fs.take (k + 1))) = padB (jn (fs.take k)) ++ padB (frB fs[k]) := by rw [jn_take hg, padB_app]
    have e1 : jn fs = padB (jn (fs.take k)) ++ frB fs[k] ++ (List.replicate (gap (frB fs[k]).length) 0 ++ ((pcs fs).drop (k + 1)).flatten) := by
      rw [jn_at fs (k + 1) hlt2, e0]
      simp only [padB, List.append_assoc]
    have h1 : fa (jn fs) (padB (jn (fs.take k))).length = some fs[k] := by
      rw [e1]
      exact fa_mid _ _ _ (hf _ (List.getElem_mem hlt))
    have h2 : (padB (jn (fs.take k))).length + frL fs[k] = (jn (fs.take (k + 1))).length := by rw [jn_take hg, List.length_append, frB_len]
    have h3 : nx (jn fs) ((padB (jn (fs.take k))).length + frL fs[k]) = some (padB (jn (fs.take (k + 1)))).length := by
      rw [h2, jn_at fs (k + 1) hlt2]
      exact nx_mid _ _ (rest_ne fs (k + 1) hlt2)
    obtain ⟨i1, i2, i3⟩ := ih (k + 1) (by omega)
    rw [yla_more h1 h3]
    refine ⟨?_, by simp, by rw [kend_cons _ i2]; exact i3⟩
    rw [List.map_cons, i1, List.drop_eq_getElem_cons hlt]
theorem spl_jn (fs : List Fr) (hf : ∀ f ∈ fs, Fit f) : spl (jn fs) = .ok fs := by
  rcases Nat.eq_zero_or_pos fs.length with h0 | h0
  · obtain rfl : fs = [] := List.eq_nil_of_length_eq_zero h0
    have h : yla ([] : List UInt8) 0 = [] := yla_none (by simp [fa])
    show spl [] = _
    unfold spl
    rw [h]
    rfl
  · obtain ⟨h1, _, h3⟩ := yla_jn fs hf (fs.length - 1) 0 (by omega)
    have e : (padB (jn (fs.take 0))).length = 0 := by rw [List.take_zero]; rfl
    rw [e] at h1 h3
    unfold spl
    rw [if_pos h3, h1, List.drop_zero]

/-! ### the other way: the bytes of the frames of some bytes -/
theorem be2_of (a c : UInt8) : be 2 (u32of (numOf [a, c])) = [a, c] := by
  have ha := a.toNat_lt
  have hc := c.toNat_lt
  have h : numOf [a, c] = a.toNat * 256 + c.toNat := by simp [numOf, numStep]; omega
  rw [h]
  simp only [be, List.range, List.range.loop, List.map_cons, List.map_nil, beByte, u32of_toNat (show a.toNat * 256 + c.toNat < 4294967296 by omega)]
  congr 1
  · apply UInt8.toNat_inj.1
    rw [UInt8.toNat_ofNat']
    simp <;> omega
  · congr 1
    apply UInt8.toNat_inj.1
    rw [UInt8.toNat_ofNat']
    simp <;> omega
theorem two_of {l : List UInt8} (h : l.length = 2) : ∃ a c, l = [a, c] := by
  match l, h with
  | [a, c], _ => exact ⟨a, c, rfl⟩
theorem fa_back {b : List UInt8} {k : Nat} {f : Fr} (h : fa b k = some f) : Fit f ∧ (b.drop k).take (frL f) = frB f := by
  unfold fa at h
  split at h
  · cases h
  · rename_i h4
    split at h
    · cases h
    · rename_i hy
      simp only [Option.some.injEq] at h
      subst h
      obtain ⟨a, c, hac⟩ := two_of (l := (b.drop k).take 2) (by rw [List.length_take, List.length_drop]; omega)
      obtain ⟨d, e, hde⟩ := two_of (l := (b.drop (k + 2)).take 2) (by rw [List.length_take, List.length_drop]; omega)
      have hn2 := numOf_two (l := (b.drop (k + 2)).take 2) (by rw [List.length_take]; omega)
      have hn1 := numOf_two (l := (b.drop k).take 2) (by rw [List.length_take]; omega)
      have hvl : ((b.drop (k + 4)).take (numOf ((b.drop (k + 2)).take 2) - 4)).length = numOf ((b.drop (k + 2)).take 2) - 4 := by rw [List.length_take, List.length_drop]; omega
      refine ⟨by unfold Fit; simp only; rw [hvl]; omega, ?_⟩
      unfold frB frL
      simp only
      rw [headB_eq, hvl, show 4 + (numOf ((b.drop (k + 2)).take 2) - 4) = numOf ((b.drop (k + 2)).take 2) by omega, u16of_toNat hn1]
      have e1 : b.drop k = (b.drop k).take 2 ++ ((b.drop (k + 2)).take 2 ++ b.drop (k + 4)) := by
        rw [← List.drop_drop (i := 2) (j := k + 2), List.take_append_drop, ← List.drop_drop (i := 2) (j := k), List.take_append_drop]
      have e2 : be 2 (u32of (numOf ((b.drop k).take 2))) = (b.drop k).take 2 := by rw [hac, be2_of]
      have e3 : be 2 (u32of (numOf ((b.drop (k + 2)).take 2))) = (b.drop (k + 2)).take 2 := by rw [hde, be2_of]
      rw [e2, e3]
      generalize numOf ((b.drop (k + 2)).take 2) = y at *
      conv => lhs; rw [e1]
      rw [hac, hde]
      obtain ⟨z, rfl⟩ : ∃ z, y = z + 4 := ⟨y - 4, by omega⟩
      simp
theorem yla_back (b : List UInt8) : ∀ m k pre, b.length - k ≤ m → k ≤ b.length → b.take k = padB (jn pre) → yla b k ≠ [] →
    b.take (kend (yla b k)) = jn (pre ++ (yla b k).map Prod.snd) ∧ ∀ p ∈ yla b k, Fit p.2 := by
  intro m
  induction m with
  | zero =>
    intro k pre h1 h2 h3 h4
    exact absurd (yla_none (by unfold fa; rw [if_pos (by omega)])) h4
  | succ m ih =>
    intro k pre h1 h2 h3 h4
    cases hf : fa b k with
    | none => exact absurd (yla_none hf) h4
    | some f =>
      obtain ⟨hfit, hb⟩ := fa_back hf
      have hl := fa_len hf
      have hp := frL_pos f
      have e1 : b.take (k + frL f) = jn (pre ++ [f]) := by
        rw [List.take_add, h3, hb, jn_snoc]
      cases hn : nx b (k + frL f) with
      | none =>
        rw [yla_last hf hn]
        refine ⟨by simpa [kend] using e1, fun p hp => ?_⟩
        rw [List.mem_singleton.1 hp]
        exact hfit
      | some k' =>
        obtain ⟨n1, n2, n3, n4⟩ := nx_some hn
        rw [yla_more hf hn]
        have hlen : (jn (pre ++ [f])).length = k + frL f := by rw [← e1, List.length_take]; omega
        have e2 : b.take k' = padB (jn (pre ++ [f])) := by
          rw [n1]
          unfold up padB
          rw [List.take_add, e1, hlen]
          congr 1
          exact List.eq_replicate_iff.2 ⟨by rw [List.length_take, List.length_drop]; unfold up at n1; omega, fun x hx => by
            unfold zeroB at n4
            simpa using List.all_eq_true.1 n4 x hx⟩
        by_cases hr : yla b k' = []
        · rw [hr]
          refine ⟨by simpa [kend] using e1, fun p hp => ?_⟩
          rw [List.mem_singleton.1 hp]
          exact hfit
        · obtain ⟨i1, i2⟩ := ih k' (pre ++ [f]) (by omega) (by omega) e2 hr
          refine ⟨?_, fun p hp => ?_⟩
          · rw [kend_cons _ hr, i1]
            simp
          · rcases List.mem_cons.1 hp with rfl | hp
            · exact hfit
            · exact i2 p hp
theorem spl_back {b : List UInt8} {fs : List Fr} (h : spl b = .ok fs) : jn fs = b ∧ ∀ f ∈ fs, Fit f := by
  unfold spl at h
  split at h
  · rename_i he
    simp only [Out.ok.injEq] at h
    subst h
    by_cases hr : yla b 0 = []
    · rw [hr] at he ⊢
      have : b = [] := List.eq_nil_of_length_eq_zero (by rw [← he]; rfl)
      subst this
      exact ⟨rfl, by simp⟩
    · obtain ⟨h1, h2⟩ := yla_back b b.length 0 [] (by omega) (by omega) rfl hr
      rw [he, List.take_length, List.nil_append] at h1
      exact ⟨h1.symm, fun f hf => by obtain ⟨p, hp, rfl⟩ := List.mem_map.1 hf; exact h2 p hp⟩
  · split at h <;> cases h
end Go.Proofs.YthkbcpbgoefanaaGreatDoor


