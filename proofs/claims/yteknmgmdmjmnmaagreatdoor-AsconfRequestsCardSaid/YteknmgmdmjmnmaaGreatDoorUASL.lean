/- Layer 18: slices.Equal of ints, the numbers of awake reckoned; awake. They write nothing that was there. -/
/- Layer 18: awake (written by tools/gen_asc_n.py). It writes nothing that was there. -/
import Derived.Test.YteknmgmdmjmnmaaGreatDoorUASH
import Derived.Test.YteknmgmdmjmnmaaGreatDoorUASE
import Derived.Test.YteknmgmdmjmnmaaGreatDoorUNodeRAC
import Derived.Deep.RegionHeld3
import Derived.BigGuard





namespace Go.Proofs.YteknmgmdmjmnmaaGreatDoor
open Go.RowKit

set_option linter.unusedSimpArgs false
set_option maxRecDepth 100000 in
set_option maxHeartbeats 4000000 in
theorem seqi18_self (l : List Nat) (A A' : Option Addr) (c c' : Nat) (w : World) (h : Lies w w.heap.size A (l.map iv18)) (h' : Lies w w.heap.size A' (l.map iv18)) (hl : l.length ≤ 1000000) :
    Calls Tryz.prog 42 #[.slice A l.length c, .slice A' l.length c'] w fun e w' => e = .returned (.bool true) ∧ Below w.heap.size w w' := by
  have hne : ((l.length : Int) != (l.length : Int)) = false := by simp
  go_enter Tryz.func42, Tryz.ntmps42
  go_upto_region 3 with fail
  clear hne
  go_wp2_with fail
  go_loopw [13] (fun i wr => ∃ k : Nat, k ≤ l.length ∧ i = .int .i64 (k : Int) ∧ Below w.heap.size w wr) (fun i _ => l.length - (intOf i).toNat)
  case atStart => exact ⟨0, Nat.zero_le _, rfl, Below.refl _ _⟩
  case round =>
    obtain ⟨k, hk, rfl, hbel⟩ := hrel
    by_cases hlt : k < l.length
    · obtain ⟨ad, x, rfl, hb, hx, hc0⟩ := (h.below hbel).of_map (f := iv18) hlt
      obtain ⟨ad', y, rfl, hb', hy, hc1⟩ := (h'.below hbel).of_map (f := iv18) hlt
      obtain rfl : x = y := by have h1 := hx.out; rw [hy.out] at h1; cases h1; rfl
      have hi1 : (k : Int) < (l.length : Int) := by omega
      have hne : ((x : Int) != (x : Int)) = false := by simp
      have hbd := below_drew hbel
      clear hx hy
      go_upto_region 6 with fail
      go_region_held3 (fun W => W.cell? (ad.add k) = some (iv18 x) ∧ W.cell? (ad'.add k) = some (iv18 x))
        (exact ⟨hc0, hc1⟩) (fail)
      go_wp2_with fail
      go_roundw
      case rel => exact ⟨k + 1, by omega, by go_num, hbd⟩
      case measure => simp [intOf]; omega
    · obtain rfl : k = l.length := by omega
      have hi1 : ¬ (l.length : Int) < (l.length : Int) := by omega
      go_wp2_with fail
      go_ret
      exact ⟨rfl, hbel⟩
/-! ### the numbers of awake -/
def awA18 : Nd := .mk 5 [10, 0, 0, 1] []
def awX18 : Nd := .mk 49153 (be 4 7) [awA18]
def awY18 : Nd := .mk 49154 (be 4 8) [awA18]
def awS18 : Nd := .mk 49157 (be 4 8) []
def awR18 : Ck := ⟨193, 0, be 4 3, [awA18, awX18, awY18]⟩
def awT18 : Ck := ⟨128, 0, be 4 3, [awS18]⟩
theorem awX_ok : chgB awX18 = true := by decide +kernel
theorem awY_ok : chgB awY18 = true := by decide +kernel
theorem awN_no : chgB (.mk 49155 (be 4 7) [awA18]) = false := by decide +kernel
theorem awR_ok : serB awR18 = true := by decide +kernel
theorem awT_ok : serB awT18 = true := by decide +kernel
theorem awRT_ok : resOk awR18 awT18 = true := by decide +kernel
theorem awRT_out : outL awR18 awT18 = [0, 1] := by decide +kernel
theorem awR_v : serV awR18 = 3 := by decide +kernel
theorem awY_id : idB awY18 = true := by decide +kernel
theorem awY_v : idV awY18 = 8 := by decide +kernel
theorem fine_few18 {ns : List Nd} (h : cnt 21 ns ≤ 200) : ∀ n ∈ ns, Fine n := (few_fine 21 ns h).2.2
theorem awY_fine : Fine awY18 := fine_few18 (ns := [awY18]) (by decide +kernel) _ (by simp)
theorem awR_fine : CkFine awR18 := ⟨by decide +kernel, by decide +kernel, fine_few18 (ns := [awA18, awX18, awY18]) (by decide +kernel)⟩
theorem awT_fine : CkFine awT18 := ⟨by decide +kernel, by decide +kernel, fine_few18 (ns := [awS18]) (by decide +kernel)⟩
theorem awA_node18 {w : World} {g : Nat} (h : Lies w w.heap.size (some ⟨g, 0, none⟩) [bv 10, bv 0, bv 0, bv 1]) : Node w w.heap.size (some ⟨g, 0, none⟩) 4 none 0 awA18 := ⟨h, Nat.le_refl _, by unfold maxLen; omega, Nodes.nil _ _ _, Nat.le_refl _, Nat.zero_le _⟩
theorem nodes_two18 {w : World} {g : Nat} {a b : Nd} {A A' K K' : Option Addr} {c c' k k' : Nat} (hx : Whole w g 51 #[hv a.t, .slice A a.v.length c, .slice K a.ks.length k, hv b.t, .slice A' b.v.length c', .slice K' b.ks.length k']) (ha : Node w w.heap.size A c K k a) (hb : Node w w.heap.size A' c' K' k' b) : Nodes w w.heap.size (some ⟨g, 0, none⟩) [a, b] := by
  refine .mk [hv a.t, .slice A a.v.length c, .slice K a.ks.length k, hv b.t, .slice A' b.v.length c', .slice K' b.ks.length k'] (fun i => match i with | 0 => K | _ + 1 => K') (fun i => match i with | 0 => k | _ + 1 => k') (fun _ => ⟨_, rfl, hx.lt, fun j x hj => ?_⟩) rfl (fun i m hm => ?_) (fun i m hm => ?_)
  · rw [add_row, hx.cell, List.getElem?_toArray]
    exact hj
  · match i, hm with
    | 0, hm =>
      simp only [List.getElem?_cons_zero, Option.some.injEq] at hm
      subst hm
      exact ⟨rfl, ⟨_, rfl, A, c, rfl, ha.data, ha.dc, ha.dm⟩, rfl, ha.kc, ha.km⟩
    | 1, hm =>
      simp only [List.getElem?_cons_succ, List.getElem?_cons_zero, Option.some.injEq] at hm
      subst hm
      exact ⟨rfl, ⟨_, rfl, A', c', rfl, hb.data, hb.dc, hb.dm⟩, rfl, hb.kc, hb.km⟩
    | i + 2, hm => simp at hm
  · match i, hm with
    | 0, hm =>
      simp only [List.getElem?_cons_zero, Option.some.injEq] at hm
      subst hm
      exact ha.kids
    | 1, hm =>
      simp only [List.getElem?_cons_succ, List.getElem?_cons_zero, Option.some.injEq] at hm
      subst hm
      exact hb.kids
    | i + 2, hm => simp at hm
theorem nodes_one18 {w : World} {g : Nat} {n : Nd} {A : Option Addr} {c : Nat} {K : Option Addr} {k : Nat} (hx : Whole w g 51 #[hv n.t, .slice A n.v.length c, .slice K n.ks.length k]) (h : Node w w.heap.size A c K k n) : Nodes w w.heap.size (some ⟨g, 0, none⟩) [n] := by
  refine .mk [hv n.t, .slice A n.v.length c, .slice K n.ks.length k] (fun _ => K) (fun _ => k) (fun _ => ⟨_, rfl, hx.lt, fun j x hj => ?_⟩) rfl (fun i m hm => ?_) (fun i m hm => ?_)
  · rw [add_row, hx.cell, List.getElem?_toArray]
    exact hj
  · match i, hm with
    | 0, hm =>
      simp only [List.getElem?_cons_zero, Option.some.injEq] at hm
      subst hm
      exact ⟨rfl, ⟨_, rfl, A, c, rfl, h.data, h.dc, h.dm⟩, rfl, h.kc, h.km⟩
    | i + 1, hm => simp at hm
  · match i, hm with
    | 0, hm =>
      simp only [List.getElem?_cons_zero, Option.some.injEq] at hm
      subst hm
      exact h.kids
    | i + 1, hm => simp at hm
theorem mkN_yes {n : Nd} {w w' : World} {e : Ending} (h : MkN n true w e w') : Below w.heap.size w w' ∧ ∃ A' c' K' k', e = .returned (.tuple #[ndV n A' c' K' k', .bool true]) ∧ Node w' w'.heap.size A' c' K' k' n := by
  obtain ⟨hb, h | h⟩ := h
  · exact ⟨hb, h.2⟩
  · exact absurd h.1 (by simp)
theorem mkN_no {n : Nd} {w w' : World} {e : Ending} (h : MkN n false w e w') : Below w.heap.size w w' ∧ e = .returned (.tuple #[.agg #[.int .u16 0, .slice none 0 0, .slice none 0 0], .bool false]) := by
  obtain ⟨hb, h | h⟩ := h
  · exact absurd h.1 (by simp)
  · exact ⟨hb, h.2⟩
theorem mkK_yes {x : Ck} {w w' : World} {e : Ending} (h : MkK x true w e w') : Below w.heap.size w w' ∧ ∃ A' c' K' k', e = .returned (.tuple #[ckV x A' c' K' k', .bool true]) ∧ Chunk w' w'.heap.size A' c' K' k' x := by
  obtain ⟨hb, ⟨_, A', c', K', k', he, hs⟩ | h⟩ := h
  · exact ⟨hb, A', c', K', k', he, hs.chunk (fun b hb => hb.2)⟩
  · exact absurd h.1 (by simp)
theorem mkK_no {x : Ck} {w w' : World} {e : Ending} (h : MkK x false w e w') : Below w.heap.size w w' ∧ e = .returned (.tuple #[.agg #[.int .u8 0, .int .u8 0, .slice none 0 0, .slice none 0 0], .bool false]) := by
  obtain ⟨hb, h | h⟩ := h
  · exact absurd h.1 (by simp)
  · exact ⟨hb, h.2⟩
theorem awA_len : awA18.v.length ≤ 140737488355328 ∧ awA18.ks.length ≤ 9223372036854775807 := by decide +kernel
theorem ak18_x (g : Nat) (w : World) (hT : Tbl w) (h : Lies w w.heap.size (some ⟨g, 0, none⟩) [bv 10, bv 0, bv 0, bv 1]) : Calls Tryz.prog 26 #[.int .u16 49153, .int .u32 7, .agg #[.int .u16 5, .slice (some ⟨g, 0, none⟩) 4 4, .slice none 0 0]] w fun e w' => Below w.heap.size w w' ∧ ∃ A' c' K' k', e = .returned (.tuple #[.agg #[.int .u16 49153, .slice A' 4 c', .slice K' 1 k'], .bool true]) ∧ Node w' w'.heap.size A' c' K' k' awX18 :=
  Calls.mono (change18_any 49153 7 awA18 awA_len.1 awA_len.2 (some ⟨g, 0, none⟩) 4 none 0 w (awA_node18 h) hT) fun e w' h => by
    have e1 : chgB (.mk 49153 (be 4 7) [awA18]) = true := awX_ok
    rw [e1] at h
    exact mkN_yes h
theorem ak18_y (g : Nat) (w : World) (hT : Tbl w) (h : Lies w w.heap.size (some ⟨g, 0, none⟩) [bv 10, bv 0, bv 0, bv 1]) : Calls Tryz.prog 26 #[.int .u16 49154, .int .u32 8, .agg #[.int .u16 5, .slice (some ⟨g, 0, none⟩) 4 4, .slice none 0 0]] w fun e w' => Below w.heap.size w w' ∧ ∃ A' c' K' k', e = .returned (.tuple #[.agg #[.int .u16 49154, .slice A' 4 c', .slice K' 1 k'], .bool true]) ∧ Node w' w'.heap.size A' c' K' k' awY18 :=
  Calls.mono (change18_any 49154 8 awA18 awA_len.1 awA_len.2 (some ⟨g, 0, none⟩) 4 none 0 w (awA_node18 h) hT) fun e w' h => by
    have e1 : chgB (.mk 49154 (be 4 8) [awA18]) = true := awY_ok
    rw [e1] at h
    exact mkN_yes h
theorem ak18_n (g : Nat) (w : World) (hT : Tbl w) (h : Lies w w.heap.size (some ⟨g, 0, none⟩) [bv 10, bv 0, bv 0, bv 1]) : Calls Tryz.prog 26 #[.int .u16 49155, .int .u32 7, .agg #[.int .u16 5, .slice (some ⟨g, 0, none⟩) 4 4, .slice none 0 0]] w fun e w' => Below w.heap.size w w' ∧ e = .returned (.tuple #[.agg #[.int .u16 0, .slice none 0 0, .slice none 0 0], .bool false]) :=
  Calls.mono (change18_any 49155 7 awA18 awA_len.1 awA_len.2 (some ⟨g, 0, none⟩) 4 none 0 w (awA_node18 h) hT) fun e w' h => by
    rw [awN_no] at h
    exact mkN_no h
theorem ak18_r (g gk : Nat) (Ax Kx Ay Ky : Option Addr) (cx kx cy ky : Nat) (w : World) (hh : Handle w) (h : Lies w w.heap.size (some ⟨g, 0, none⟩) [bv 10, bv 0, bv 0, bv 1]) (hx : Node w w.heap.size Ax cx Kx kx awX18) (hy : Node w w.heap.size Ay cy Ky ky awY18)
    (hg : Whole w gk 51 #[.int .u16 49153, .slice Ax 4 cx, .slice Kx 1 kx, .int .u16 49154, .slice Ay 4 cy, .slice Ky 1 ky]) : Calls Tryz.prog 38 #[.int .u32 3, .agg #[.int .u16 5, .slice (some ⟨g, 0, none⟩) 4 4, .slice none 0 0], .slice (some ⟨gk, 0, none⟩) 2 2] w fun e w' => Below w.heap.size w w' ∧ ∃ A' c' K' k', e = .returned (.tuple #[.agg #[.int .u8 193, .int .u8 0, .slice A' 4 c', .slice K' 3 k'], .bool true]) ∧ Chunk w' w'.heap.size A' c' K' k' awR18 :=
  Calls.mono (request18_any 3 awA18 [awX18, awY18] awR_fine (some ⟨g, 0, none⟩) 4 none 0 (some ⟨gk, 0, none⟩) 2 w (awA_node18 h) (nodes_two18 (a := awX18) (b := awY18) hg hx hy) hh) fun e w' h => by
    have e1 : serB ⟨193, 0, be 4 3, [awA18, awX18, awY18]⟩ = true := awR_ok
    rw [e1] at h
    exact mkK_yes h
theorem ak18_s (gk B : Nat) (As : Option Addr) (cs : Nat) (w : World) (hh : Handle w) (ho : w.ownsRow B 5 1 (.slice As 4 cs) 4 ((be 4 8).map bv)) (hg : Whole w gk 51 #[.int .u16 49157, .slice As 4 cs, .slice none 0 0]) : Calls Tryz.prog 40 #[.int .u32 3, .slice (some ⟨gk, 0, none⟩) 1 1] w fun e w' => Below w.heap.size w w' ∧ ∃ A' c' K' k', e = .returned (.tuple #[.agg #[.int .u8 128, .int .u8 0, .slice A' 4 c', .slice K' 1 k'], .bool true]) ∧ Chunk w' w'.heap.size A' c' K' k' awT18 := by
  obtain ⟨_, cp1, cp2⟩ := own_cap ho
  have hn : Node w w.heap.size As cs none 0 awS18 := ⟨Lies.own ho, cp1, cp2, Nodes.nil _ _ _, Nat.le_refl _, Nat.zero_le _⟩
  exact Calls.mono (answer18_any 3 [awS18] awT_fine (some ⟨gk, 0, none⟩) 1 w (nodes_one18 (n := awS18) hg hn) (Nat.le_refl _) (by unfold maxLen; omega) hh) fun e w' h => by
    have e1 : serB ⟨128, 0, be 4 3, [awS18]⟩ = true := awT_ok
    rw [e1] at h
    exact mkK_yes h
theorem ak18_l (A K A' K' : Option Addr) (c k c' k' : Nat) (w : World) (hh : Handle w) (hr : Chunk w w.heap.size A c K k awR18) (ht : Chunk w w.heap.size A' c' K' k' awT18) : Calls Tryz.prog 41 #[.agg #[.int .u8 193, .int .u8 0, .slice A 4 c, .slice K 3 k], .agg #[.int .u8 128, .int .u8 0, .slice A' 4 c', .slice K' 1 k']] w fun e w' => Below w.heap.size w w' ∧ ∃ A2 c2, e = .returned (.tuple #[.slice A2 2 c2, .bool true]) ∧ Lies w' w'.heap.size A2 [.int .i64 0, .int .i64 1] :=
  Calls.mono (results18_any awR18 awT18 awR_fine awT_fine A c K k A' c' K' k' w hr ht hh) fun e w' h => by
    obtain ⟨hb, ⟨_, A2, c2, he, ho⟩ | ⟨h1, _⟩⟩ := h
    · rw [awRT_out] at ho
      exact ⟨hb, A2, c2, he, Lies.own ho⟩
    · rw [awRT_ok] at h1; cases h1
theorem ak18_ser (A K : Option Addr) (c k : Nat) (w : World) (hh : Handle w) (hr : Chunk w w.heap.size A c K k awR18) : Calls Tryz.prog 34 #[.agg #[.int .u8 193, .int .u8 0, .slice A 4 c, .slice K 3 k]] w fun e w' => e = .returned (.tuple #[.int .u32 3, .bool true]) ∧ Below w.heap.size w w' := by
  have h9 := serial18_any awR18 awR_fine A c K k w hr hh
  rw [awR_v, awR_ok] at h9
  exact h9
theorem ak18_id (A K : Option Addr) (c k : Nat) (w : World) (hy : Node w w.heap.size A c K k awY18) : Calls Tryz.prog 33 #[.agg #[.int .u16 49154, .slice A 4 c, .slice K 1 k]] w fun e w' => e = .returned (.tuple #[.int .u32 8, .bool true]) ∧ Below w.heap.size w w' := by
  have h9 := id18_any awY18 awY_fine A c K k w hy
  rw [awY_v, awY_id] at h9
  exact h9
theorem ak18_eq (A : Option Addr) (c : Nat) (w : World) (h : Lies w w.heap.size A [.int .i64 0, .int .i64 1]) : Calls Tryz.prog 42 #[.slice A 2 c, .slice (some ⟨w.heap.size, 0, none⟩) 2 2] (w.alloc (.cells #[.int .i64 0, .int .i64 1] 3)) fun e w' => e = .returned (.bool true) ∧ Below w.heap.size w w' :=
  Calls.mono (seqi18_self [0, 1] A (some ⟨w.heap.size, 0, none⟩) c 2 (w.alloc (.cells #[.int .i64 0, .int .i64 1] 3)) ((h.below ((Below.refl _ w).alloc (Nat.le_refl _) _)).more (by simp)) ((Lies.newN w [iv18 0, iv18 1] 3).more (by simp)) (by decide)) fun e w' h => ⟨h.1, ((Below.refl _ w).alloc (Nat.le_refl _) _).trans (h.2.mono (by simp))⟩
end Go.Proofs.YteknmgmdmjmnmaaGreatDoor




namespace Go.Proofs.YteknmgmdmjmnmaaGreatDoor
open Go.RowKit

set_option linter.unusedSimpArgs false
set_option maxRecDepth 100000 in
set_option maxHeartbeats 16000000 in
theorem awake18_any (w : World) (hh : Handle w) (hT : Tbl w) : Calls Tryz.prog 23 #[] w fun e w' => e = .returned (.bool true) ∧ Below w.heap.size w w' := by
  have HH := Lib.hid (fun (V : World) (hb : Below w.heap.size w V) => hh.below hb hh.lt)
  have HT := Lib.hid (fun (V : World) (hb : Below w.heap.size w V) => hT.below hb)
  clear hh hT
  go_enter Tryz.func23, Tryz.ntmps23
  go_upto_region 2 with fail
  have B2 : Below w.heap.size w ((w.alloc (.cells #[.int .u8 10, .int .u8 0, .int .u8 0, .int .u8 1] 5)).alloc (.cells #[.int .u16 5, .slice (some ⟨w.heap.size, 0, none⟩) 4 4, .slice none 0 0] 51)) := ((Below.refl _ w).alloc (Nat.le_refl _) _).alloc (by simp) _
  have a2 := Whole.new (w.alloc (.cells #[.int .u8 10, .int .u8 0, .int .u8 0, .int .u8 1] 5)) 51 #[.int .u16 5, .slice (some ⟨w.heap.size, 0, none⟩) 4 4, .slice none 0 0]
  rw [World.size_alloc] at a2
  have l2 : Lies ((w.alloc (.cells #[.int .u8 10, .int .u8 0, .int .u8 0, .int .u8 1] 5)).alloc (.cells #[.int .u16 5, .slice (some ⟨w.heap.size, 0, none⟩) 4 4, .slice none 0 0] 51)) ((w.alloc (.cells #[.int .u8 10, .int .u8 0, .int .u8 0, .int .u8 1] 5)).alloc (.cells #[.int .u16 5, .slice (some ⟨w.heap.size, 0, none⟩) 4 4, .slice none 0 0] 51)).heap.size (some ⟨w.heap.size, 0, none⟩) [bv 10, bv 0, bv 0, bv 1] := ((Lies.newN w [bv 10, bv 0, bv 0, bv 1] 5).below ((Below.refl (w.heap.size + 1) (w.alloc (.cells #[.int .u8 10, .int .u8 0, .int .u8 0, .int .u8 1] 5))).alloc (by simp) (.cells #[.int .u16 5, .slice (some ⟨w.heap.size, 0, none⟩) 4 4, .slice none 0 0] 51))).more (by simp)
  generalize ((w.alloc (.cells #[.int .u8 10, .int .u8 0, .int .u8 0, .int .u8 1] 5)).alloc (.cells #[.int .u16 5, .slice (some ⟨w.heap.size, 0, none⟩) 4 4, .slice none 0 0] 51)) = w2 at *
  have HX := Lib.hid (ak18_x w.heap.size w2 (HT.out _ B2) l2)
  obtain ⟨p0, p1, p2⟩ := wh318 a2
  go_wp2_with fail
  refine HX.out.mono ?_
  rintro e w3 ⟨b3, Ax, cx, Kx, kx, rfl, NX3⟩
  clear HX p0 p1 p2
  have B3 := B2.trans (b3.mono B2.size)
  have a3 := a2.below b3 a2.lt
  have l3 := (l2.below b3).more b3.size
  clear a2 l2 B2 b3
  go_upto_region 3 with fail
  have B4 := B3.alloc B3.size (.cells #[.int .u16 49153, .slice Ax 4 cx, .slice Kx 1 kx] 51)
  have ba4 : Below w3.heap.size w3 (w3.alloc (.cells #[.int .u16 49153, .slice Ax 4 cx, .slice Kx 1 kx] 51)) := (Below.refl _ w3).alloc (Nat.le_refl _) _
  have a4 := a3.alloc (.cells #[.int .u16 49153, .slice Ax 4 cx, .slice Kx 1 kx] 51)
  have l4 := (l3.below ba4).more ba4.size
  have NX4 := NX3.on ba4
  have x4 := Whole.new w3 51 #[.int .u16 49153, .slice Ax 4 cx, .slice Kx 1 kx]
  clear ba4 a3 l3 NX3 B3
  generalize w3.alloc (.cells #[.int .u16 49153, .slice Ax 4 cx, .slice Kx 1 kx] 51) = w4 at *
  generalize w3.heap.size = gx at *
  have HX := Lib.hid (ak18_y w.heap.size w4 (HT.out _ B4) l4)
  obtain ⟨p0, p1, p2⟩ := wh318 a4
  go_wp2_with fail
  refine HX.out.mono ?_
  rintro e w5 ⟨b5, Ay, cy, Ky, ky, rfl, NY5⟩
  clear HX p0 p1 p2
  have B5 := B4.trans (b5.mono B4.size)
  have a5 := a4.below b5 a4.lt
  have l5 := (l4.below b5).more b5.size
  have NX5 := NX4.on b5
  have x5 := x4.below b5 x4.lt
  clear a4 l4 NX4 x4 B4 b5
  go_upto_region 4 with fail
  have B6 := B5.alloc B5.size (.cells #[.int .u16 49154, .slice Ay 4 cy, .slice Ky 1 ky] 51)
  have ba6 : Below w5.heap.size w5 (w5.alloc (.cells #[.int .u16 49154, .slice Ay 4 cy, .slice Ky 1 ky] 51)) := (Below.refl _ w5).alloc (Nat.le_refl _) _
  have a6 := a5.alloc (.cells #[.int .u16 49154, .slice Ay 4 cy, .slice Ky 1 ky] 51)
  have l6 := (l5.below ba6).more ba6.size
  have NX6 := NX5.on ba6
  have x6 := x5.alloc (.cells #[.int .u16 49154, .slice Ay 4 cy, .slice Ky 1 ky] 51)
  have NY6 := NY5.on ba6
  have y6 := Whole.new w5 51 #[.int .u16 49154, .slice Ay 4 cy, .slice Ky 1 ky]
  clear ba6 a5 l5 NX5 x5 NY5 B5
  generalize w5.alloc (.cells #[.int .u16 49154, .slice Ay 4 cy, .slice Ky 1 ky] 51) = w6 at *
  generalize w5.heap.size = gy at *
  have bk : Below w6.heap.size w6 (w6.alloc (.cells #[.int .u16 49153, .slice Ax 4 cx, .slice Kx 1 kx, .int .u16 49154, .slice Ay 4 cy, .slice Ky 1 ky] 51)) := (Below.refl _ w6).alloc (Nat.le_refl _) _
  have HX := Lib.hid (ak18_r w.heap.size w6.heap.size Ax Kx Ay Ky cx kx cy ky (w6.alloc (.cells #[.int .u16 49153, .slice Ax 4 cx, .slice Kx 1 kx, .int .u16 49154, .slice Ay 4 cy, .slice Ky 1 ky] 51)) (HH.out _ (B6.trans (bk.mono B6.size))) ((l6.below bk).more bk.size) (NX6.on bk) (NY6.on bk) (Whole.new w6 51 #[.int .u16 49153, .slice Ax 4 cx, .slice Kx 1 kx, .int .u16 49154, .slice Ay 4 cy, .slice Ky 1 ky]))
  obtain ⟨p0, p1, p2⟩ := wh318 a6
  obtain ⟨r0, r1, r2⟩ := wh318 x6
  obtain ⟨s0, s1, s2⟩ := wh318 y6
  clear NX6
  go_wp2_with fail
  refine HX.out.mono ?_
  rintro e w7 ⟨b7', A7, c7, K7, k7, rfl, CR7⟩
  have b7 : Below w6.heap.size w6 w7 := bk.trans (b7'.mono bk.size)
  clear HX p0 p1 p2 r0 r1 r2 s0 s1 s2 bk b7' x6
  have B7 := B6.trans (b7.mono B6.size)
  have a7 := a6.below b7 a6.lt
  have l7 := (l6.below b7).more b7.size
  have NY7 := NY6.on b7
  have y7 := y6.below b7 y6.lt
  clear a6 l6 NY6 y6 B6 b7
  go_upto_region 5 with fail
  have B8 := B7.alloc B7.size (.cells #[.int .u8 193, .int .u8 0, .slice A7 4 c7, .slice K7 3 k7] 62)
  have ba8 : Below w7.heap.size w7 (w7.alloc (.cells #[.int .u8 193, .int .u8 0, .slice A7 4 c7, .slice K7 3 k7] 62)) := (Below.refl _ w7).alloc (Nat.le_refl _) _
  have a8 := a7.alloc (.cells #[.int .u8 193, .int .u8 0, .slice A7 4 c7, .slice K7 3 k7] 62)
  have l8 := (l7.below ba8).more ba8.size
  have NY8 := NY7.on ba8
  have y8 := y7.alloc (.cells #[.int .u8 193, .int .u8 0, .slice A7 4 c7, .slice K7 3 k7] 62)
  have CR8 := CR7.on ba8
  have r8 := Whole.new w7 62 #[.int .u8 193, .int .u8 0, .slice A7 4 c7, .slice K7 3 k7]
  clear ba8 a7 l7 NY7 y7 CR7 B7
  generalize w7.alloc (.cells #[.int .u8 193, .int .u8 0, .slice A7 4 c7, .slice K7 3 k7] 62) = w8 at *
  generalize w7.heap.size = gr at *
  have HX := Lib.hid (suc18_any 8 w8)
  go_wp2_with fail
  refine HX.out.mono ?_
  rintro e w9 ⟨As, cs, rfl, b9, o9⟩
  clear HX
  have B9 := B8.trans (b9.mono B8.size)
  have a9 := a8.below b9 a8.lt
  have l9 := (l8.below b9).more b9.size
  have NY9 := NY8.on b9
  have y9 := y8.below b9 y8.lt
  have CR9 := CR8.on b9
  have r9 := r8.below b9 r8.lt
  clear a8 l8 NY8 y8 CR8 r8 B8 b9
  have bk : Below w9.heap.size w9 (w9.alloc (.cells #[.int .u16 49157, .slice As 4 cs, .slice none 0 0] 51)) := (Below.refl _ w9).alloc (Nat.le_refl _) _
  have HX := Lib.hid (ak18_s w9.heap.size _ As cs (w9.alloc (.cells #[.int .u16 49157, .slice As 4 cs, .slice none 0 0] 51)) (HH.out _ (B9.trans (bk.mono B9.size))) (o9.alloc _) (Whole.new w9 51 #[.int .u16 49157, .slice As 4 cs, .slice none 0 0]))
  clear o9
  go_wp2_with fail
  refine HX.out.mono ?_
  rintro e w10 ⟨b10', A10, c10, K10, k10, rfl, CT10⟩
  have b10 : Below w9.heap.size w9 w10 := bk.trans (b10'.mono bk.size)
  clear HX bk b10'
  have B10 := B9.trans (b10.mono B9.size)
  have a10 := a9.below b10 a9.lt
  have l10 := (l9.below b10).more b10.size
  have NY10 := NY9.on b10
  have y10 := y9.below b10 y9.lt
  have CR10 := CR9.on b10
  have r10 := r9.below b10 r9.lt
  clear a9 l9 NY9 y9 CR9 r9 B9 b10
  go_upto_region 6 with fail
  have B11 := B10.alloc B10.size (.cells #[.int .u8 128, .int .u8 0, .slice A10 4 c10, .slice K10 1 k10] 62)
  have ba11 : Below w10.heap.size w10 (w10.alloc (.cells #[.int .u8 128, .int .u8 0, .slice A10 4 c10, .slice K10 1 k10] 62)) := (Below.refl _ w10).alloc (Nat.le_refl _) _
  have a11 := a10.alloc (.cells #[.int .u8 128, .int .u8 0, .slice A10 4 c10, .slice K10 1 k10] 62)
  have l11 := (l10.below ba11).more ba11.size
  have NY11 := NY10.on ba11
  have y11 := y10.alloc (.cells #[.int .u8 128, .int .u8 0, .slice A10 4 c10, .slice K10 1 k10] 62)
  have CR11 := CR10.on ba11
  have r11 := r10.alloc (.cells #[.int .u8 128, .int .u8 0, .slice A10 4 c10, .slice K10 1 k10] 62)
  have CT11 := CT10.on ba11
  have t11 := Whole.new w10 62 #[.int .u8 128, .int .u8 0, .slice A10 4 c10, .slice K10 1 k10]
  clear ba11 a10 l10 NY10 y10 CR10 r10 CT10 B10
  generalize w10.alloc (.cells #[.int .u8 128, .int .u8 0, .slice A10 4 c10, .slice K10 1 k10] 62) = w11 at *
  generalize w10.heap.size = gt at *
  have HX := Lib.hid (ak18_l A7 K7 A10 K10 c7 k7 c10 k10 w11 (HH.out _ B11) CR11 CT11)
  obtain ⟨p0, p1, p2, p3⟩ := wh4 r11
  obtain ⟨s0, s1, s2, s3⟩ := wh4 t11
  clear CT11
  go_wp2_with fail
  refine HX.out.mono ?_
  rintro e w12 ⟨b12, A12, c12, rfl, L12⟩
  clear HX p0 p1 p2 p3 s0 s1 s2 s3 t11
  have B12 := B11.trans (b12.mono B11.size)
  have a12 := a11.below b12 a11.lt
  have l12 := (l11.below b12).more b12.size
  have NY12 := NY11.on b12
  have y12 := y11.below b12 y11.lt
  have CR12 := CR11.on b12
  have r12 := r11.below b12 r11.lt
  clear a11 l11 NY11 y11 CR11 r11 B11 b12
  go_upto_region 7 with fail
  have HX := Lib.hid (ak18_ser A7 K7 c7 k7 w12 (HH.out _ B12) CR12)
  obtain ⟨p0, p1, p2, p3⟩ := wh4 r12
  clear CR12
  go_wp2_with fail
  refine HX.out.mono ?_
  rintro e w13 ⟨rfl, b13⟩
  have L13 := (L12.below b13).more b13.size
  clear HX p0 p1 p2 p3 r12 L12
  have B13 := B12.trans (b13.mono B12.size)
  have a13 := a12.below b13 a12.lt
  have l13 := (l12.below b13).more b13.size
  have NY13 := NY12.on b13
  have y13 := y12.below b13 y12.lt
  clear a12 l12 NY12 y12 B12 b13
  go_upto_region 8 with fail
  have HX := Lib.hid (ak18_id Ay Ky cy ky w13 NY13)
  obtain ⟨p0, p1, p2⟩ := wh318 y13
  clear NY13
  go_wp2_with fail
  refine HX.out.mono ?_
  rintro e w14 ⟨rfl, b14⟩
  have L14 := (L13.below b14).more b14.size
  clear HX p0 p1 p2 y13 L13
  have B14 := B13.trans (b14.mono B13.size)
  have a14 := a13.below b14 a13.lt
  have l14 := (l13.below b14).more b14.size
  clear a13 l13 B13 b14
  go_upto_region 9 with fail
  have HX := Lib.hid (ak18_n w.heap.size w14 (HT.out _ B14) l14)
  obtain ⟨p0, p1, p2⟩ := wh318 a14
  clear l14
  go_wp2_with fail
  refine HX.out.mono ?_
  rintro e w15 ⟨b15, rfl⟩
  have B15 := B14.trans (b15.mono B14.size)
  have L15 := (L14.below b15).more b15.size
  clear HX p0 p1 p2 a14 L14 B14 b15
  go_upto_region 10 with fail
  have B16 := B15.alloc B15.size (.cells #[.int .u16 0, .slice none 0 0, .slice none 0 0] 51)
  have L16 := (L15.below ((Below.refl _ w15).alloc (Nat.le_refl _) (.cells #[.int .u16 0, .slice none 0 0, .slice none 0 0] 51))).more (B' := (w15.alloc (.cells #[.int .u16 0, .slice none 0 0, .slice none 0 0] 51)).heap.size) (by simp)
  generalize w15.alloc (.cells #[.int .u16 0, .slice none 0 0, .slice none 0 0] 51) = w16 at *
  have HX := Lib.hid (ak18_eq A12 c12 w16 L16)
  clear L16 L15 B15
  go_wp2_with fail
  refine HX.out.mono ?_
  rintro e w17 ⟨rfl, b17⟩
  have HB := Lib.hid (B16.trans (b17.mono B16.size))
  clear HX B16 b17
  go_wp2_with fail
  go_ret
  exact ⟨rfl, HB.out⟩
end Go.Proofs.YteknmgmdmjmnmaaGreatDoor


