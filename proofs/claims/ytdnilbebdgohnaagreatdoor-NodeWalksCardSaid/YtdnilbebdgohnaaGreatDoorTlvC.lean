/- Layer 6, package tlv: frameAt, nextAt, for whatever bytes. They write nothing that was there. -/
import Derived.Test.YtdnilbebdgohnaaGreatDoorTlvB
import Derived.Test.YtdnilbebdgohnaaGreatDoorWireE
import Derived.Test.YtdnilbebdgohnaaGreatDoorErrD
import Derived.Laws.ResultCell




namespace Go.Proofs.YtdnilbebdgohnaaGreatDoor
open Go.RowKit

/-- a result that lies in memory whole, beside two that don't -/
theorem results_row_tmp2 {P : Program} {fn : Func} {p u v : Tmp} {ty : TypeId} (h : fn.results = #[.cell p ty, .tmp u, .tmp v]) (tmps : Array Value) (w : World) (g : Nat) (t : TypeId) (cs : Array Value) (d : TypeDesc)
    (hp : tmps.getD p undef = .pointer (some ⟨g, 0, none⟩)) (hg : Whole w g t cs)
    (hu : P.underlying ty = some d) (hd : (match d with | .struct _ | .array _ _ => true | _ => false) = true) (hi : (P.info? ty).map (·.size) = some cs.size) :
    (results fn tmps).run P w = .ok (.tuple #[.agg cs, tmps.getD u undef, tmps.getD v undef]) w := by
  have hp' : tmps[p]?.getD undef = .pointer (some ⟨g, 0, none⟩) := by simpa using hp
  simp only [results, h]
  simp [Result.andThen, hp', asAddr, run_loadVar_row w g t ty cs (0, 0) d hg hu hd hi]

def u16of (n : Nat) : UInt16 := UInt16.ofNat n
/-- the frame at an offset -/
def fa (b : List UInt8) (k : Nat) : Option Fr :=
  if b.length < k + 4 then none
  else if numOf ((b.drop (k + 2)).take 2) < 4 ∨ b.length < k + numOf ((b.drop (k + 2)).take 2) then none
  else some ⟨u16of (numOf ((b.drop k).take 2)), (b.drop (k + 4)).take (numOf ((b.drop (k + 2)).take 2) - 4)⟩
/-- what follows a frame that ends at e, where bytes follow -/
def nx (b : List UInt8) (e : Nat) : Option Nat := if Good b (e : Int) ∧ up e ≠ b.length then some (up e) else none

/-- what follows a frame that ends at e, or the end -/
def na (b : List UInt8) (e : Nat) : Option Nat := if e = b.length then some e else nx b e

theorem nextAt_any (A : Option Addr) (c : Nat) (b : List UInt8) (e : Nat) (w : World) (h : Lies w w.heap.size A (b.map bv)) (hbc : b.length ≤ c) (hn : b.length ≤ 10000000) :
    Calls Tryz.prog 77 #[.slice A b.length c, .int .i64 (e : Int)] w fun r w' => r = .returned (.tuple #[.int .i64 ((na b e).getD 0 : Nat), .bool (na b e).isSome]) ∧ w = w' := by
  by_cases he : e = b.length
  · have hx : na b e = some e := by unfold na; rw [if_pos he]
    rw [hx]
    have ht : ((e : Int) == (b.length : Int)) = true := by rw [beq_iff_eq]; omega
    clear hx he
    go_enter Tryz.func77, Tryz.ntmps77
    go_wp2_with fail
    go_ret2
    exact ⟨rfl, rfl⟩
  have hte : ((e : Int) == (b.length : Int)) = false := by rw [beq_eq_false_iff_ne]; omega
  have hna : na b e = nx b e := by unfold na; rw [if_neg he]
  rw [hna]
  clear he hna
  have hN := next_any A c b e w h hbc hn
  by_cases hg : Good b (e : Int)
  · obtain ⟨e1, e2⟩ := next_yes hg
    rw [e1, e2, Int.toNat_natCast] at hN
    by_cases hu : up e = b.length
    · have hx : nx b e = none := by unfold nx; rw [if_neg (by simp [hu])]
      rw [hx]
      have ht : ((up e : Int) == (b.length : Int)) = true := by rw [beq_iff_eq]; omega
      clear hu hx hg e1 e2
      generalize up e = u at *
      go_enter Tryz.func77, Tryz.ntmps77
      go_wp2_with fail
      refine hN.mono ?_
      rintro r w' ⟨rfl, rfl⟩
      go_wp2_with fail
      go_ret2
      exact ⟨rfl, rfl⟩
    · have hx : nx b e = some (up e) := by unfold nx; rw [if_pos ⟨hg, hu⟩]
      rw [hx]
      have ht : ((up e : Int) == (b.length : Int)) = false := by rw [beq_eq_false_iff_ne]; omega
      clear hu hx hg e1 e2
      generalize up e = u at *
      go_enter Tryz.func77, Tryz.ntmps77
      go_wp2_with fail
      refine hN.mono ?_
      rintro r w' ⟨rfl, rfl⟩
      go_wp2_with fail
      go_ret2
      exact ⟨rfl, rfl⟩
  · obtain ⟨e1, e2⟩ := next_no hg
    rw [e1, e2] at hN
    have hx : nx b e = none := by unfold nx; rw [if_neg (by simp [hg])]
    rw [hx]
    clear hx hg e1 e2
    go_enter Tryz.func77, Tryz.ntmps77
    go_wp2_with fail
    refine hN.mono ?_
    rintro r w' ⟨rfl, rfl⟩
    go_wp2_with fail
    go_ret2
    exact ⟨rfl, rfl⟩

theorem frameAt_short (A : Option Addr) (c : Nat) (b : List UInt8) (k : Nat) (w : World) (_hbc : b.length ≤ c) (_hm : c ≤ maxLen) (hk : k ≤ b.length) (h4 : b.length < k + 4) :
    Calls Tryz.prog 66 #[.slice A b.length c, .int .i64 (k : Int)] w fun r w' => r = .returned (.tuple #[.agg #[.int .u16 0, .slice none 0 0], .int .i64 0, faultV 4 (k : Int)]) ∧ Below w.heap.size w w' := by
  have h5 : ((b.length - k : Nat) : Int) < 4 := by omega
  go_enter Tryz.func66, Tryz.ntmps66
  go_wp2_with fail
  all_goals
    refine (New_any _ _ _).mono ?_
    rintro e w3 ⟨rfl, rfl⟩
    go_wp2_with fail
    (try simp only [Exit.inBlock, Exit.then])
    refine bodyPost_ret (results_row_tmp2 rfl _ _ w.heap.size 67 #[.int .u16 0, .slice none 0 0] _ rfl (Whole.new w _ _) Tryz.underlying67 rfl (by kernel_rfl)) rfl ?_
    exact ⟨rfl, (Below.refl _ w).alloc (Nat.le_refl _) _⟩

theorem numOf_two {l : List UInt8} (h : l.length ≤ 2) : numOf l < 65536 := by
  match l, h with
  | [], _ => simp [numOf]
  | [a], _ => have := a.toNat_lt; simp [numOf, numStep]; omega
  | [a, b], _ => have := a.toNat_lt; have := b.toNat_lt; simp [numOf, numStep]; omega
  | _ :: _ :: _ :: _, h => simp at h
theorem u16of_toNat {n : Nat} (h : n < 65536) : (u16of n).toNat = n := by
  unfold u16of
  rw [UInt16.toNat_ofNat']
  exact Nat.mod_eq_of_lt h
theorem parts1 {w : World} (v1 : Value) (p1 : List UInt8) (h1 : IsB w w.heap.size v1 p1) :
    Parts (w.alloc (.cells #[v1] 32)) (w.alloc (.cells #[v1] 32)).heap.size (some ⟨w.heap.size, 0, none⟩) [v1] [p1] := by
  have hb : Below w.heap.size w (w.alloc (.cells #[v1] 32)) := (Below.refl _ w).alloc (Nat.le_refl _) _
  refine ⟨(Lies.newN w [v1] _).more (by simp), rfl, fun i p hp => ?_⟩
  match i, hp with
  | 0, hp =>
    simp only [List.getElem?_cons_zero, Option.some.injEq] at hp
    subst hp
    obtain ⟨A, c, h1, h2, h3, h4⟩ := h1
    exact ⟨_, rfl, A, c, h1, (h2.below hb).more hb.size, h3, h4⟩
  | i + 1, hp => simp at hp
theorem tot1 (p : List UInt8) : tot [p] = p.length := by simp [tot]
/-- a copy of some bytes -/
theorem copy_join (A : Option Addr) (c : Nat) (b : List UInt8) (w : World) (h : Lies w w.heap.size A (b.map bv)) (hc : b.length ≤ c) (hm : c ≤ maxLen) (hn : b.length ≤ 10000000) :
    Calls Tryz.prog 35 #[.slice (some ⟨w.heap.size, 0, none⟩) 1 1] (w.alloc (.cells #[.slice A b.length c] 32)) fun e w' =>
      ∃ A' c', e = .returned (.slice A' b.length c') ∧ w'.ownsRow w.heap.size 5 1 (.slice A' b.length c') b.length (b.map bv) ∧ Below w.heap.size w w' := by
  have hP := parts1 (.slice A b.length c) b ⟨A, c, rfl, h, hc, hm⟩
  refine (join_any _ 1 _ _ _ hP (by simp [maxLen]) (by rw [tot1]; omega)).mono ?_
  rintro e w' ⟨A', c', rfl, hown, hb⟩
  rw [tot1] at hown ⊢
  have e3 : [b].flatten = b := by simp
  rw [e3] at hown
  exact ⟨A', c', rfl, own_base hown (by simp), ((Below.refl _ w).alloc (Nat.le_refl _) _).trans (hb.mono (by simp))⟩
/-- the same where an answer has been drawn ahead -/
theorem copy_join_drew (A : Option Addr) (c : Nat) (b : List UInt8) (w : World) (h : Lies w w.heap.size A (b.map bv)) (hc : b.length ≤ c) (hm : c ≤ maxLen) (hn : b.length ≤ 10000000) :
    Calls Tryz.prog 35 #[.slice (some ⟨w.heap.size, 0, none⟩) 1 1] (w.alloc (.cells #[.slice A b.length c] 32)).drew fun e w' =>
      ∃ A' c', e = .returned (.slice A' b.length c') ∧ w'.ownsRow w.heap.size 5 1 (.slice A' b.length c') b.length (b.map bv) ∧ Below w.heap.size w w' := by
  have h1 := copy_join A c b w.drew h hc hm hn
  refine Calls.mono (show Calls Tryz.prog 35 #[.slice (some ⟨w.heap.size, 0, none⟩) 1 1] (w.alloc (.cells #[.slice A b.length c] 32)).drew _ from h1) ?_
  rintro e w' ⟨A', c', h2, h3, h4⟩
  exact ⟨A', c', h2, h3, h4.os, h4.tape, h4.output, h4.size, h4.block⟩
/-- the two numbers that a frame begins with -/
theorem head_nums (ad : Addr) (c : Nat) (d : List UInt8) (w : World) (hd : d.length = 4) (h : Lies w w.heap.size (some ad) (d.map bv)) (hc : 4 ≤ c) :
    Calls Tryz.prog 76 #[.int .i64 2, .slice (some ad) 4 c] w fun e w' => ∃ g c', e = .returned (.slice (some ⟨g, 0, none⟩) 2 c') ∧ 2 ≤ c' ∧
      w'.cell? ⟨g, 0, none⟩ = some (.int .u32 (numOf (d.take 2) : Nat)) ∧ w'.cell? ⟨g, 1, none⟩ = some (.int .u32 (numOf ((d.drop 2).take 2) : Nat)) ∧ w.heap.size ≤ g ∧ g < w'.heap.size ∧ Below w.heap.size w w' := by
  have hN := numbersF_any 2 rfl (some ad) c d w h (by rw [hd]) (by omega) (by omega)
  rw [hd] at hN
  refine hN.mono ?_
  rintro e w' ⟨A', c', rfl, hown, hb⟩
  have hn : nums 2 d = [numAt 2 d 0, numAt 2 d 1] := by unfold nums; rw [hd]; rfl
  rw [hn] at hown
  obtain ⟨g, x, rfl, hx, h0, _, hg1, hg2⟩ := own_at hown (k := 0) (by omega)
  obtain ⟨g', y, hg, hy, h1, _⟩ := own_at hown (k := 1) (by omega)
  obtain rfl : g = g' := by simpa using hg
  have hx' := hx.out
  have hy' := hy.out
  simp only [List.map_cons, List.getElem?_cons_zero, List.getElem?_cons_succ, Option.some.injEq] at hx' hy'
  subst hx' hy'
  refine ⟨g, c', rfl, (own_cap hown).2.1, ?_, ?_, hg1, hg2, hb⟩
  · rw [h0, uv, numAt_toNat]; simp
  · rw [h1, uv, numAt_toNat]

set_option maxHeartbeats 1000000 in
theorem frameAt_bad (A : Option Addr) (c : Nat) (b : List UInt8) (k : Nat) (w : World) (h : Lies w w.heap.size A (b.map bv)) (hbc : b.length ≤ c) (_hm : c ≤ maxLen) (hn : b.length ≤ 10000000) (h4 : k + 4 ≤ b.length)
    (hbad : numOf ((b.drop (k + 2)).take 2) < 4 ∨ b.length < k + numOf ((b.drop (k + 2)).take 2)) :
    Calls Tryz.prog 66 #[.slice A b.length c, .int .i64 (k : Int)] w fun r w' => r = .returned (.tuple #[.agg #[.int .u16 0, .slice none 0 0], .int .i64 0, faultV 4 (k : Int)]) ∧ Below w.heap.size w w' := by
  obtain ⟨ad, rfl, hb, hcell⟩ := h (fun e => by have := congrArg List.length e; simp at this; subst this; simp at h4)
  have hd4 : ((b.drop k).take 4).length = 4 := by rw [List.length_take, List.length_drop]; omega
  have hl : Lies w w.heap.size (some (ad.add k)) (((b.drop k).take 4).map bv) := by
    have := (h.drop (k := k) (c := b.length + 1) (by simp)).take 4
    rw [if_neg (by omega), ← List.map_drop, ← List.map_take] at this
    exact this
  have hH := head_nums (ad.add k) (c - k) _ (w.alloc (.cells #[.int .u16 0, .slice none 0 0] 67)) hd4 ((hl.alloc (Nat.le_refl _) _).more (by simp)) (by omega)
  have e2 : (((b.drop k).take 4).drop 2).take 2 = (b.drop (k + 2)).take 2 := by rw [List.drop_take, List.drop_drop, List.take_take]; rfl
  rw [e2] at hH
  have hy := numOf_two (l := (b.drop (k + 2)).take 2) (by rw [List.length_take]; omega)
  generalize numOf ((b.drop (k + 2)).take 2) = y at *
  generalize numOf (((b.drop k).take 4).take 2) = x at *
  have h5 : (4 : Int) ≤ ((b.length - k : Nat) : Int) := by omega
  have hck : ¬ c = k := by omega
  have HH := Lib.hid hH
  clear hH hcell e2 hl hd4
  by_cases hy4 : y < 4
  · go_enter Tryz.func66, Tryz.ntmps66
    go_wp2_with fail
    refine HH.out.mono ?_
    rintro e w2 ⟨g, c', rfl, hc2, g0, g1, hg1, hg2, b2⟩
    have hW := (Whole.new w 67 #[.int .u16 0, .slice none 0 0]).below b2 (by simp)
    have hb2 : Below w.heap.size w w2 := ((Below.refl _ w).alloc (Nat.le_refl _) _).trans (b2.mono (by simp))
    have c0 := hW.cell 0
    have c1 := hW.cell 1
    have f0 := hW.frozen 0
    have f1 := hW.frozen 1
    simp only [List.getElem?_toArray, List.getElem?_cons_zero, List.getElem?_cons_succ] at c0 c1
    go_wp2_with fail
    refine (New_any _ _ _).mono ?_
    rintro e w3 ⟨rfl, rfl⟩
    go_wp2_with fail
    (try simp only [Exit.inBlock, Exit.then])
    refine bodyPost_ret (results_row_tmp2 rfl _ _ w.heap.size 67 #[.int .u16 0, .slice none 0 0] _ rfl ((hW.set_ 0 _).set_ 1 _) Tryz.underlying67 rfl (by kernel_rfl)) rfl ?_
    exact ⟨rfl, (hb2.setCell (Nat.le_refl _) _).setCell (Nat.le_refl _) _⟩
  · have h6 : ((b.length - k : Nat) : Int) < (y : Int) := by omega
    have h7 : (4 : Int) ≤ (y : Int) := by omega
    go_enter Tryz.func66, Tryz.ntmps66
    go_wp2_with fail
    refine HH.out.mono ?_
    rintro e w2 ⟨g, c', rfl, hc2, g0, g1, hg1, hg2, b2⟩
    have hW := (Whole.new w 67 #[.int .u16 0, .slice none 0 0]).below b2 (by simp)
    have hb2 : Below w.heap.size w w2 := ((Below.refl _ w).alloc (Nat.le_refl _) _).trans (b2.mono (by simp))
    have c0 := hW.cell 0
    have c1 := hW.cell 1
    have f0 := hW.frozen 0
    have f1 := hW.frozen 1
    simp only [List.getElem?_toArray, List.getElem?_cons_zero, List.getElem?_cons_succ] at c0 c1
    go_wp2_with fail
    refine (New_any _ _ _).mono ?_
    rintro e w3 ⟨rfl, rfl⟩
    go_wp2_with fail
    (try simp only [Exit.inBlock, Exit.then])
    refine bodyPost_ret (results_row_tmp2 rfl _ _ w.heap.size 67 #[.int .u16 0, .slice none 0 0] _ rfl ((hW.set_ 0 _).set_ 1 _) Tryz.underlying67 rfl (by kernel_rfl)) rfl ?_
    exact ⟨rfl, (hb2.setCell (Nat.le_refl _) _).setCell (Nat.le_refl _) _⟩

theorem own_set {w : World} {base e n c g i : Nat} {A : Option Addr} {xs : List Value} (h : w.ownsRow base e 1 (.slice A n c) n xs) (hg : g < base) (u : Value) : (w.setCell ⟨g, i, none⟩ u).ownsRow base e 1 (.slice A n c) n xs :=
  h.kept (row := some g) ⟨rfl, rfl, rfl, by simp [World.setCell], fun j _ hj => Below.heap_setCell w _ _ j (fun e => hj (by rw [e]))⟩ (.inr (fun e => by have := (h.lt g e).1; omega))
theorem u16_wrap {x : Nat} (hx : x < 65536) : Value.int .u16 (IntKind.u16.wrap (x : Int)) = hv (u16of x) := by
  rw [hv, u16of_toNat hx, IntKind.wrap_u16]
  congr 1
  omega
set_option maxHeartbeats 1000000 in
theorem frameAt_pad (A : Option Addr) (c : Nat) (b : List UInt8) (k : Nat) (w : World) (h : Lies w w.heap.size A (b.map bv)) (hbc : b.length ≤ c) (_hm : c ≤ maxLen) (hn : b.length ≤ 10000000) (h4 : k + 4 ≤ b.length) (y : Nat) (hy0 : y = numOf ((b.drop (k + 2)).take 2))
    (hy4 : 4 ≤ y) (hyb : k + y ≤ b.length) (hna : na b (k + y) = none) :
    Calls Tryz.prog 66 #[.slice A b.length c, .int .i64 (k : Int)] w fun r w' => r = .returned (.tuple #[.agg #[.int .u16 0, .slice none 0 0], .int .i64 0, faultV 5 ((k : Int) + (y : Int))]) ∧ Below w.heap.size w w' := by
  have hN : ∀ w2, Below w.heap.size w w2 → Calls Tryz.prog 77 #[.slice A b.length c, .int .i64 ((k : Int) + (y : Int))] w2 fun r w' => r = .returned (.tuple #[.int .i64 0, .bool false]) ∧ w2 = w' := fun w2 h2 => by
    have := nextAt_any A c b (k + y) w2 ((h.below h2).more h2.size) hbc hn
    rw [hna, Int.natCast_add] at this
    exact this
  obtain ⟨ad, rfl, hb, hcell⟩ := h (fun e => by have := congrArg List.length e; simp at this; subst this; simp at h4)
  have hd4 : ((b.drop k).take 4).length = 4 := by rw [List.length_take, List.length_drop]; omega
  have hl : Lies w w.heap.size (some (ad.add k)) (((b.drop k).take 4).map bv) := by
    have := (h.drop (k := k) (c := b.length + 1) (by simp)).take 4
    rw [if_neg (by omega), ← List.map_drop, ← List.map_take] at this
    exact this
  have hH := head_nums (ad.add k) (c - k) _ (w.alloc (.cells #[.int .u16 0, .slice none 0 0] 67)) hd4 ((hl.alloc (Nat.le_refl _) _).more (by simp)) (by omega)
  have e2 : (((b.drop k).take 4).drop 2).take 2 = (b.drop (k + 2)).take 2 := by rw [List.drop_take, List.drop_drop, List.take_take]; rfl
  rw [e2, ← hy0] at hH
  generalize numOf (((b.drop k).take 4).take 2) = x at *
  have h5 : (4 : Int) ≤ ((b.length - k : Nat) : Int) := by omega
  have h6 : (y : Int) ≤ ((b.length - k : Nat) : Int) := by omega
  have h7 : (4 : Int) ≤ (y : Int) := by omega
  have hck : ¬ c = k := by omega
  have HH := Lib.hid hH
  have HN := Lib.hid hN
  clear hH hcell e2 hl hd4 hN hna hy0
  go_enter Tryz.func66, Tryz.ntmps66
  go_wp2_with fail
  refine HH.out.mono ?_
  rintro e w2 ⟨g, c', rfl, hc2, g0, g1, hg1, hg2, b2⟩
  have hW := (Whole.new w 67 #[.int .u16 0, .slice none 0 0]).below b2 (by simp)
  have hb2 : Below w.heap.size w w2 := ((Below.refl _ w).alloc (Nat.le_refl _) _).trans (b2.mono (by simp))
  have c0 := hW.cell 0
  have c1 := hW.cell 1
  have f0 := hW.frozen 0
  have f1 := hW.frozen 1
  simp only [List.getElem?_toArray, List.getElem?_cons_zero, List.getElem?_cons_succ] at c0 c1
  go_wp2_with fail
  refine (HN.out w2 hb2).mono ?_
  rintro e w3 ⟨rfl, rfl⟩
  go_wp2_with fail
  refine (New_any _ _ _).mono ?_
  rintro e w3 ⟨rfl, rfl⟩
  go_wp2_with fail
  (try simp only [Exit.inBlock, Exit.then])
  refine bodyPost_ret (results_row_tmp2 rfl _ _ w.heap.size 67 #[.int .u16 0, .slice none 0 0] _ rfl ((hW.set_ 0 _).set_ 1 _) Tryz.underlying67 rfl (by kernel_rfl)) rfl ?_
  exact ⟨rfl, (hb2.setCell (Nat.le_refl _) _).setCell (Nat.le_refl _) _⟩

set_option maxHeartbeats 1000000 in
theorem frameAt_good (A : Option Addr) (c : Nat) (b : List UInt8) (k : Nat) (w : World) (h : Lies w w.heap.size A (b.map bv)) (hbc : b.length ≤ c) (hm : c ≤ maxLen) (hn : b.length ≤ 10000000) (h4 : k + 4 ≤ b.length) (y : Nat) (hy0 : y = numOf ((b.drop (k + 2)).take 2))
    (hy4 : 4 ≤ y) (hyb : k + y ≤ b.length) (k' : Nat) (hna : na b (k + y) = some k') (v : List UInt8) (hvv : v = (b.drop (k + 4)).take (y - 4)) :
    Calls Tryz.prog 66 #[.slice A b.length c, .int .i64 (k : Int)] w fun r w' => ∃ A' c', r = .returned (.tuple #[.agg #[hv (u16of (numOf ((b.drop k).take 2))), .slice A' v.length c'], .int .i64 (k' : Int), .nilIface]) ∧
      w'.ownsRow w.heap.size 5 1 (.slice A' v.length c') v.length (v.map bv) ∧ Below w.heap.size w w' := by
  have hN : ∀ w2, Below w.heap.size w w2 → Calls Tryz.prog 77 #[.slice A b.length c, .int .i64 ((k : Int) + (y : Int))] w2 fun r w' => r = .returned (.tuple #[.int .i64 (k' : Int), .bool true]) ∧ w2 = w' := fun w2 h2 => by
    have := nextAt_any A c b (k + y) w2 ((h.below h2).more h2.size) hbc hn
    rw [hna, Int.natCast_add] at this
    exact this
  have HN := Lib.hid hN
  clear hN hna
  obtain ⟨ad, rfl, hb, hcell⟩ := h (fun e => by have := congrArg List.length e; simp at this; subst this; simp at h4)
  have hd4 : ((b.drop k).take 4).length = 4 := by rw [List.length_take, List.length_drop]; omega
  have hl : Lies w w.heap.size (some (ad.add k)) (((b.drop k).take 4).map bv) := by
    have := (h.drop (k := k) (c := b.length + 1) (by simp)).take 4
    rw [if_neg (by omega), ← List.map_drop, ← List.map_take] at this
    exact this
  have hvl : v.length = y - 4 := by rw [hvv, List.length_take, List.length_drop]; omega
  have hl4 : Lies w w.heap.size (if c - k = 4 then some (ad.add k) else some ((ad.add k).add 4)) (v.map bv) := by
    have h1 := h.drop (k := k) (c := b.length + 1) (by simp)
    rw [if_neg (by omega), ← List.map_drop] at h1
    have h2 := (h1.drop (k := 4) (c := c - k) (by simp; omega)).take (y - 4)
    rw [← List.map_drop, ← List.map_take, List.drop_drop, ← hvv] at h2
    exact h2
  have hH := head_nums (ad.add k) (c - k) _ (w.alloc (.cells #[.int .u16 0, .slice none 0 0] 67)) hd4 ((hl.alloc (Nat.le_refl _) _).more (by simp)) (by omega)
  have e2 : (((b.drop k).take 4).drop 2).take 2 = (b.drop (k + 2)).take 2 := by rw [List.drop_take, List.drop_drop, List.take_take]; rfl
  have e3 : ((b.drop k).take 4).take 2 = (b.drop k).take 2 := by rw [List.take_take]; rfl
  rw [e2, ← hy0, e3] at hH
  have hx := numOf_two (l := (b.drop k).take 2) (by rw [List.length_take]; omega)
  have hxt := u16of_toNat hx
  generalize numOf ((b.drop k).take 2) = x at *
  have h5 : (4 : Int) ≤ ((b.length - k : Nat) : Int) := by omega
  have h6 : (y : Int) ≤ ((b.length - k : Nat) : Int) := by omega
  have h7 : (4 : Int) ≤ (y : Int) := by omega
  have hck : ¬ c = k := by omega
  have HV := Lib.hid hvl
  have HX := Lib.hid hxt
  have hb0 : Below w.heap.size w (w.alloc (.cells #[.int .u16 0, .slice none 0 0] 67)) := (Below.refl _ w).alloc (Nat.le_refl _) _
  clear hcell e2 e3 hl hd4 hvv hy0 hvl hxt
  by_cases hcc : c - k = 4
  · obtain rfl : y = 4 := by omega
    simp only [Int.cast_ofNat_Int] at HN
    rw [hcc] at hH
    have HH := Lib.hid hH
    have hv0 : v = [] := List.eq_nil_of_length_eq_zero (by rw [HV.out])
    subst hv0
    have HJ : Hid (∀ (W : World) (A' : Option Addr), Calls Tryz.prog 35 #[.slice (some ⟨W.heap.size, 0, none⟩) 1 1] (W.alloc (.cells #[.slice A' 0 0] 32)).drew fun e w' =>
      ∃ A' c', e = .returned (.slice A' 0 c') ∧ w'.ownsRow W.heap.size 5 1 (.slice A' 0 c') 0 [] ∧ Below W.heap.size W w') := fun W A' =>
        copy_join_drew A' 0 [] W Lies.nil (by simp) (by unfold maxLen; omega) (by simp)
    clear hH hl4 h5 h7
    have h5 : (4 : Int) ≤ ((b.length - k : Nat) : Int) := by omega
    go_enter Tryz.func66, Tryz.ntmps66
    go_wp2_with fail
    refine HH.out.mono ?_
    rintro e w2 ⟨g, c', rfl, hc2, g0, g1, hg1, hg2, b2⟩
    have hW := (Whole.new w 67 #[.int .u16 0, .slice none 0 0]).below b2 (by simp)
    have hb2 : Below w.heap.size w w2 := hb0.trans (b2.mono (by simp))
    go_wp2_with fail
    refine (HN.out w2 hb2).mono ?_
    rintro e w3 ⟨rfl, rfl⟩
    go_wp2_with fail
    have hw2 := b2.size
    have hne : g ≠ w.heap.size := by simp at hg1; omega
    have hne' : w.heap.size ≠ g := Ne.symm hne
    simp only [World.size_alloc] at hw2
    go_region_held3 (fun w' => w'.cell? ⟨g, 0, none⟩ = some (.int .u32 (x : Int))) (go_keep) (first | (go_at_call 35; refine (HJ.out w2 _).mono ?_; rintro e w3 ⟨A3, c3, rfl, hown, b3⟩; have k0 : w3.cell? ⟨g, 0, none⟩ = some (.int .u32 (x : Int)) := (b3.cell (p := ⟨g, 0, none⟩) hg2).trans g0; have hW3 := hW.below b3 (by omega); have r0 := hW3.cell 0; have r1 := hW3.cell 1; have f0 := hW3.frozen 0; have f1 := hW3.frozen 1; simp only [List.getElem?_toArray, List.getElem?_cons_zero, List.getElem?_cons_succ] at r0 r1))
    go_wp2_with fail
    (try simp only [Exit.inBlock, Exit.then])
    refine bodyPost_ret (results_row_tmp2 rfl _ _ w.heap.size 67 #[.int .u16 (IntKind.u16.wrap (x : Int)), .slice A3 0 c3] _ rfl ((hW3.set_ 0 _).set_ 1 _) Tryz.underlying67 rfl (by kernel_rfl)) rfl ?_
    refine ⟨A3, c3, ?_, ?_, ((hb2.trans (b3.mono hb2.size)).setCell (Nat.le_refl _) _).setCell (Nat.le_refl _) _⟩
    · rw [u16_wrap hx]; rfl
    · exact own_base (own_set (own_set hown (by omega) _) (by omega) _) (by omega)
  · rw [if_neg hcc] at hl4
    have HH := Lib.hid hH
    have h8 : (y : Int) ≤ ((c - k : Nat) : Int) := by omega
    have HJ : Hid (∀ W : World, Below w.heap.size w W → Calls Tryz.prog 35 #[.slice (some ⟨W.heap.size, 0, none⟩) 1 1] (W.alloc (.cells #[.slice (some ((ad.add k).add 4)) (y - 4) (c - k - 4)] 32)).drew fun e w' =>
      ∃ A' c', e = .returned (.slice A' v.length c') ∧ w'.ownsRow W.heap.size 5 1 (.slice A' v.length c') v.length (v.map bv) ∧ Below W.heap.size W w') := fun W hW => by
        have h8 := copy_join_drew (some ((ad.add k).add 4)) (c - k - 4) v W ((hl4.below hW).more hW.size) (by rw [HV.out]; omega) (by unfold maxLen at *; omega) (by rw [HV.out]; omega)
        rw [HV.out] at h8 ⊢
        exact h8
    clear hH hl4
    go_enter Tryz.func66, Tryz.ntmps66
    go_wp2_with fail
    refine HH.out.mono ?_
    rintro e w2 ⟨g, c', rfl, hc2, g0, g1, hg1, hg2, b2⟩
    have hW := (Whole.new w 67 #[.int .u16 0, .slice none 0 0]).below b2 (by simp)
    have hb2 : Below w.heap.size w w2 := hb0.trans (b2.mono (by simp))
    go_wp2_with fail
    refine (HN.out w2 hb2).mono ?_
    rintro e w3 ⟨rfl, rfl⟩
    go_wp2_with fail
    have hw2 := b2.size
    have hne : g ≠ w.heap.size := by simp at hg1; omega
    have hne' : w.heap.size ≠ g := Ne.symm hne
    simp only [World.size_alloc] at hw2
    go_region_held3 (fun w' => w'.cell? ⟨g, 0, none⟩ = some (.int .u32 (x : Int))) (go_keep) (first | (go_at_call 35; refine (HJ.out w2 hb2).mono ?_; rintro e w3 ⟨A3, c3, rfl, hown, b3⟩; have k0 : w3.cell? ⟨g, 0, none⟩ = some (.int .u32 (x : Int)) := (b3.cell (p := ⟨g, 0, none⟩) hg2).trans g0; have hW3 := hW.below b3 (by omega); have r0 := hW3.cell 0; have r1 := hW3.cell 1; have f0 := hW3.frozen 0; have f1 := hW3.frozen 1; simp only [List.getElem?_toArray, List.getElem?_cons_zero, List.getElem?_cons_succ] at r0 r1))
    go_wp2_with fail
    (try simp only [Exit.inBlock, Exit.then])
    refine bodyPost_ret (results_row_tmp2 rfl _ _ w.heap.size 67 #[.int .u16 (IntKind.u16.wrap (x : Int)), .slice A3 v.length c3] _ rfl ((hW3.set_ 0 _).set_ 1 _) Tryz.underlying67 rfl (by kernel_rfl)) rfl ?_
    refine ⟨A3, c3, ?_, ?_, ((hb2.trans (b3.mono hb2.size)).setCell (Nat.le_refl _) _).setCell (Nat.le_refl _) _⟩
    · rw [u16_wrap hx]; rfl
    · exact own_base (own_set (own_set hown (by omega) _) (by omega) _) (by omega)

theorem fa_len {b : List UInt8} {k : Nat} {f : Fr} (hf : fa b k = some f) : k + frL f ≤ b.length := by
  unfold fa at hf
  split at hf
  · simp at hf
  · split at hf
    · simp at hf
    · simp only [Option.some.injEq] at hf
      subst hf
      unfold frL
      simp only [List.length_take, List.length_drop]
      omega
theorem frameAt_none (A : Option Addr) (c : Nat) (b : List UInt8) (k : Nat) (w : World) (h : Lies w w.heap.size A (b.map bv)) (hbc : b.length ≤ c) (hm : c ≤ maxLen) (hn : b.length ≤ 10000000) (hk : k ≤ b.length) (hf : fa b k = none) :
    Calls Tryz.prog 66 #[.slice A b.length c, .int .i64 (k : Int)] w fun r w' => r = .returned (.tuple #[.agg #[.int .u16 0, .slice none 0 0], .int .i64 0, faultV 4 (k : Int)]) ∧ Below w.heap.size w w' := by
  unfold fa at hf
  split at hf
  · exact frameAt_short A c b k w hbc hm hk (by assumption)
  · split at hf
    · exact frameAt_bad A c b k w h hbc hm hn (by omega) (by assumption)
    · simp at hf
theorem fa_num {b : List UInt8} {k : Nat} {f : Fr} (hf : fa b k = some f) : k + 4 ≤ b.length ∧ frL f = numOf ((b.drop (k + 2)).take 2) ∧ 4 ≤ frL f ∧ f.t = u16of (numOf ((b.drop k).take 2)) ∧ f.v = (b.drop (k + 4)).take (frL f - 4) := by
  have hl := fa_len hf
  unfold fa at hf
  split at hf
  · simp at hf
  · split at hf
    · simp at hf
    · simp only [Option.some.injEq] at hf
      have e : frL f = numOf ((b.drop (k + 2)).take 2) := by
        rw [← hf]
        unfold frL
        simp only [List.length_take, List.length_drop]
        omega
      exact ⟨by omega, e, by omega, by rw [← hf], by rw [e, ← hf]⟩
theorem frameAt_wrong (A : Option Addr) (c : Nat) (b : List UInt8) (k : Nat) (f : Fr) (w : World) (h : Lies w w.heap.size A (b.map bv)) (hbc : b.length ≤ c) (hm : c ≤ maxLen) (hn : b.length ≤ 10000000) (hf : fa b k = some f) (hna : na b (k + frL f) = none) :
    Calls Tryz.prog 66 #[.slice A b.length c, .int .i64 (k : Int)] w fun r w' => r = .returned (.tuple #[.agg #[.int .u16 0, .slice none 0 0], .int .i64 0, faultV 5 ((k + frL f : Nat) : Int)]) ∧ Below w.heap.size w w' := by
  obtain ⟨h1, h2, h3, _, _⟩ := fa_num hf
  rw [Int.natCast_add]
  exact frameAt_pad A c b k w h hbc hm hn h1 _ h2 h3 (fa_len hf) hna
theorem frameAt_some (A : Option Addr) (c : Nat) (b : List UInt8) (k : Nat) (f : Fr) (k' : Nat) (w : World) (h : Lies w w.heap.size A (b.map bv)) (hbc : b.length ≤ c) (hm : c ≤ maxLen) (hn : b.length ≤ 10000000) (hf : fa b k = some f) (hna : na b (k + frL f) = some k') :
    Calls Tryz.prog 66 #[.slice A b.length c, .int .i64 (k : Int)] w fun r w' => ∃ A' c', r = .returned (.tuple #[.agg #[hv f.t, .slice A' f.v.length c'], .int .i64 (k' : Int), .nilIface]) ∧
      w'.ownsRow w.heap.size 5 1 (.slice A' f.v.length c') f.v.length (f.v.map bv) ∧ Below w.heap.size w w' := by
  obtain ⟨h1, h2, h3, h4, h5⟩ := fa_num hf
  have := frameAt_good A c b k w h hbc hm hn h1 _ h2 h3 (fa_len hf) k' hna f.v h5
  rw [← h4] at this
  exact this
end Go.Proofs.YtdnilbebdgohnaaGreatDoor

