/- Layer 8: the law NodeLimits. -/
import Derived.Test.YteelhmegmfefoaaDoorNodeS
import Derived.Deep.Cut
namespace Go.Proofs.YteelhmegmfefoaaDoor
open Go.ChangeShapes Go.WideShapes Go.ChangeAt Go.RowKit

def ndL (k : Nat) : Nd := .mk 7 (List.replicate k 0) []
theorem vlenL (k : Nat) : (ndL k).vlen = k := by simp [ndL, Nd.vlen, lens, sizes]
theorem look7 : ∃ F, look (tab 1) 7 = some F ∧ F.lo = 0 ∧ F.hi = 65531 ∧ F.un = 1 ∧ F.ki = 0 := ⟨_, rfl, by decide, by decide, by decide, by decide⟩
theorem chkL7 (f : Nat) (k : Nat) : chk (f + 1) 1 (ndL k) = if 65531 < k then 7 else 0 := by
  obtain ⟨F, h1, h2, h3, h4, h5⟩ := look7
  have hf : fitK 1 7 k = decide (k ≤ 65531) := by
    unfold fitK
    rw [h1]
    simp only [fitsB, h2, h3, h4]
    simp
    omega
  have hk : (formOf 1 7).ki = 0 := by rw [formOf_some h1, h5]
  have hi : insB 0 [] = true := by decide
  rw [chk_succ, vlenL]
  simp only [ndL, Nd.t, Nd.v, Nd.ks, List.length_replicate, hf, hk, hi, List.map_nil]
  have hc : cntB 1 7 (List.replicate k 0) = true := by unfold cntB; simp
  rw [hc]
  by_cases h : 65531 < k
  · rw [if_pos (.inl (by simp; omega)), if_pos h]
  · rw [if_neg (by simp; omega)]
    simp [fst0, h]
def ndM (k : Nat) : Nd := .mk 8 [] [ndL k]
theorem vlenM (k : Nat) : (ndM k).vlen = k + 4 := by
  rw [ndM, Nd.vlen_eq]
  simp only [Nd.v, Nd.ks, lens_map, List.map_cons, List.map_nil, vlenL, sizes_one]
  simp
  omega
theorem chkM (k : Nat) : chk 4 1 (ndM k) = if 65531 < k then 7 else if 65527 < k then 4 else 0 := by
  have hfit : fitK 1 8 0 = true := by decide +kernel
  have hcn : cntB 1 8 [] = true := by decide +kernel
  have hki : (formOf 1 8).ki = 1 := by decide +kernel
  have hin : insB 1 [ndL k] = true := by
    unfold insB
    simp [show (ins 1).2.1 = 1 by decide, show (ins 1).2.2 = 1 by decide]
  have hin1 : (ins 1).1 = 1 := by decide
  rw [chk_succ, vlenM]
  simp only [ndM, Nd.t, Nd.v, Nd.ks, List.length_nil, hfit, hki, hin, hcn, hin1, List.map_cons, List.map_nil, chkL7]
  by_cases h : 65531 < k
  · simp [fst0, h]
  · simp only [h, if_false]
    simp [fst0]
    by_cases h2 : 65527 < k
    · rw [if_pos (by omega), if_pos h2]
    · rw [if_neg (by omega), if_neg h2]
theorem fineL (k : Nat) (h : k ≤ 700000) : Fine (ndL k) := .mk (by rw [vlenL]; omega) (by simp [ndL, Nd.ks]) (by simp [ndL, Nd.ks])
theorem fineM (k : Nat) (h : k ≤ 700000) : Fine (ndM k) := .mk (by rw [vlenM]; omega) (by simp [ndM, Nd.ks]) (by intro x hx; simp [ndM, Nd.ks] at hx; subst hx; exact fineL k h)

theorem made_u8 : ∃ i0, Tryd.prog.info? 5 = some i0 ∧ i0.zero = some (.int .u8 0) ∧ i0.size = 1 ∧ i0.bytes = 1 := by
  obtain ⟨i0, hi, h⟩ := Option.map_eq_some_iff.1 (show (Tryd.prog.info? 5).map (fun i => (i.zero, i.size, i.bytes)) = some (some (.int .u8 0), 1, 1) by kernel_rfl)
  simp only [Prod.mk.injEq] at h
  exact ⟨i0, hi, h.1, h.2.1, h.2.2⟩
theorem bytes_new {w w2 : World} {k : Nat} {t : TypeId} (h : w2.ownsRow w.heap.size t 1 (.slice (some ⟨w.heap.size, 0, none⟩) k k) k (madeCells #[.int .u8 0] (k * 1)).toList) : Lies w2 w2.heap.size (some ⟨w.heap.size, 0, none⟩) ((List.replicate k (0 : UInt8)).map bv) := by
  rw [Nat.mul_one, made_zero] at h
  exact Lies.own h
theorem ndL_len (k : Nat) : (ndL k).v.length = k := by simp [ndL, Nd.v]
theorem node_leaf {w : World} {g k : Nat} (h : Lies w w.heap.size (some ⟨g, 0, none⟩) ((List.replicate k (0 : UInt8)).map bv)) (hm : k ≤ maxLen) : Node w w.heap.size (some ⟨g, 0, none⟩) k none 0 (ndL k) :=
  ⟨h, by rw [ndL_len]; exact Nat.le_refl _, hm, Nodes.nil _ _ _, Nat.le_refl _, by simp [maxLen]⟩
section
variable (w : World) (g k : Nat)
theorem check_leaf (hk : k ≤ 700000) (h : Node w w.heap.size (some ⟨g, 0, none⟩) k none 0 (ndL k)) :
    Calls Tryd.prog 12 #[.int .i64 1, .agg #[.int .u16 7, .slice (some ⟨g, 0, none⟩) k k, .slice none 0 0]] w fun e w' => e = .returned (codeE (if 65531 < k then 7 else 0)) ∧ Below w.heap.size w w' := by
  have h1 := ncheck_any 1 (ndL k) _ _ _ _ w h (fineL k hk)
  rw [chkL7 3 k] at h1
  unfold ndV at h1
  rw [ndL_len] at h1
  exact h1
theorem size_leaf (hk : k ≤ 700000) (h : Node w w.heap.size (some ⟨g, 0, none⟩) k none 0 (ndL k)) :
    Calls Tryd.prog 13 #[.slice (some ⟨w.heap.size, 0, none⟩) 1 1] (w.alloc (.cells #[.int .u16 7, .slice (some ⟨g, 0, none⟩) k k, .slice none 0 0] 27)) fun e w' => e = .returned (.int .i64 ((4 + k : Nat) : Int)) ∧ Below w.heap.size w w' := by
  have hb : Below w.heap.size w (w.alloc (.cells #[.int .u16 7, .slice (some ⟨g, 0, none⟩) k k, .slice none 0 0] 27)) := (Below.refl _ w).alloc (Nat.le_refl _) _
  have hN := h.list1 27
  rw [ndL_len] at hN
  have h1 := nsize_any [ndL k] (some ⟨w.heap.size, 0, none⟩) 1 (w.alloc (.cells #[.int .u16 7, .slice (some ⟨g, 0, none⟩) k k, .slice none 0 0] 27)) (Nodes.more hN (by simp)) (by simp) (by intro x hx; rw [List.mem_singleton.1 hx]; exact fineL k hk)
  rw [lens_map, List.map_cons, List.map_nil, vlenL, sizes_one] at h1
  refine h1.mono ?_
  rintro e w1 ⟨rfl, b1⟩
  exact ⟨rfl, hb.trans (b1.mono (by simp))⟩
/-- the node with the leaf inside -/
theorem node_in {q : Nat} (h : Node w w.heap.size (some ⟨g, 0, none⟩) k none 0 (ndL k)) (hq : Whole w q 27 #[.int .u16 7, .slice (some ⟨g, 0, none⟩) k k, .slice none 0 0]) : Node w w.heap.size none 0 (some ⟨q, 0, none⟩) 1 (ndM k) := by
  refine ⟨Lies.nil, Nat.le_refl _, by simp [maxLen], ?_, Nat.le_refl _, by simp [maxLen]⟩
  refine .mk [hv 7, .slice (some ⟨g, 0, none⟩) k k, .slice none 0 0] (fun _ => none) (fun _ => 0) (fun _ => ⟨_, rfl, hq.lt, fun j x hx => ?_⟩) rfl (fun i m hm => ?_) (fun i m hm => ?_)
  · rw [add_row, hq.cell, List.getElem?_toArray]
    exact hx
  · match i, hm with
    | 0, hm =>
      simp only [ndM, Nd.ks, List.getElem?_cons_zero, Option.some.injEq] at hm
      subst hm
      exact ⟨rfl, ⟨_, rfl, some ⟨g, 0, none⟩, k, by rw [ndL_len], h.data, by rw [ndL_len]; exact Nat.le_refl _, h.dm⟩, rfl, Nat.le_refl _, by simp [maxLen]⟩
    | i + 1, hm => simp [ndM, Nd.ks] at hm
  · match i, hm with
    | 0, hm => simp only [ndM, Nd.ks, List.getElem?_cons_zero, Option.some.injEq] at hm; subst hm; exact Nodes.nil _ _ _
    | i + 1, hm => simp [ndM, Nd.ks] at hm
theorem check_in {q : Nat} (hk : k ≤ 700000) (h : Node w w.heap.size none 0 (some ⟨q, 0, none⟩) 1 (ndM k)) :
    Calls Tryd.prog 12 #[.int .i64 1, .agg #[.int .u16 8, .slice none 0 0, .slice (some ⟨q, 0, none⟩) 1 1]] w fun e w' => e = .returned (codeE (if 65531 < k then 7 else if 65527 < k then 4 else 0)) ∧ Below w.heap.size w w' := by
  have h1 := ncheck_any 1 (ndM k) _ _ _ _ w h (fineM k hk)
  rw [chkM k] at h1
  exact h1
theorem size_in {q : Nat} (hk : k ≤ 700000) (h : Node w w.heap.size none 0 (some ⟨q, 0, none⟩) 1 (ndM k)) :
    Calls Tryd.prog 13 #[.slice (some ⟨w.heap.size, 0, none⟩) 1 1] (w.alloc (.cells #[.int .u16 8, .slice none 0 0, .slice (some ⟨q, 0, none⟩) 1 1] 27)) fun e w' => e = .returned (.int .i64 ((4 + (k + 4) : Nat) : Int)) ∧ Below w.heap.size w w' := by
  have hb : Below w.heap.size w (w.alloc (.cells #[.int .u16 8, .slice none 0 0, .slice (some ⟨q, 0, none⟩) 1 1] 27)) := (Below.refl _ w).alloc (Nat.le_refl _) _
  have h1 := nsize_any [ndM k] (some ⟨w.heap.size, 0, none⟩) 1 (w.alloc (.cells #[.int .u16 8, .slice none 0 0, .slice (some ⟨q, 0, none⟩) 1 1] 27)) ((h.list1 27).more (by simp)) (by simp) (by intro x hx; rw [List.mem_singleton.1 hx]; exact fineM k hk)
  rw [lens_map, List.map_cons, List.map_nil, vlenM, sizes_one] at h1
  refine h1.mono ?_
  rintro e w1 ⟨rfl, b1⟩
  exact ⟨rfl, hb.trans (b1.mono (by simp))⟩
end
set_option maxRecDepth 100000 in
set_option maxHeartbeats 4000000 in
theorem nl_f_hi (n m : Nat) (hn : n < 256) (hm : Int.tmod (n : Int) 20 = (m : Int)) (hm20 : m < 20) (k : Nat) (hk : 65520 + m = k) (h1 : 65531 < k) (w : World) (hh : Handle w) :
    Calls Tryd.prog 4 #[.int .u8 (n : Int), .bool false] w fun e w' => e = .returned (.bool true) ∧ Below w.heap.size w w' := by
  have HW := Lib.hid (show (65520 : Int) + (m : Int) = (k : Int) by omega)
  have HK1 := Lib.hid (show k < 65540 by omega)
  have HK2 := Lib.hid (show 65520 ≤ k by omega)
  clear hk
  obtain ⟨i0, hi, hz0, hz1, hz2⟩ := made_u8
  have t1 : (65535 : Int) < (k : Int) + 4 := by omega
  have t2 : (65531 : Int) < (k : Int) := by omega
  have H1 := Lib.hid h1
  clear h1
  go_enter Tryd.func4, Tryd.ntmps4
  go_wp2_with fail
  refine (awake_any w hh).mono ?_
  rintro e w1 ⟨rfl, b1⟩
  go_upto_region 4 with fail
  rw [HW.out]
  have hk1 := HK1.out
  have hk2 := HK2.out
  clear HW HK1 HK2 hm hm20 hn
  go_wp2_with (at_make; refine wpList_make_full _ rfl (.tmp 15) (.tmp 15) 24 rfl w1.heap.size 5 i0 _ 1 Tryd.underlying24 hi hz0 hz1 .i64 .i64 _ _ k rfl rfl rfl rfl (by rw [hz2]; omega) (by unfold maxLen; omega) (Nat.le_refl _) ?_; intro w2 hown hgrow)
  have hL := bytes_new hown
  have b2 : Below w1.heap.size w1 w2 := (Below.refl _ w1).grown hgrow (Nat.le_refl _) (by simp)
  have hB2 := b1.trans (b2.mono b1.size)
  clear hown hgrow
  have b3 : Below w2.heap.size w2 (w2.alloc (.cells #[.int .u16 7, .slice (some ⟨w1.heap.size, 0, none⟩) k k, .slice none 0 0] 27)) := (Below.refl _ w2).alloc (Nat.le_refl _) _
  have hB3 := hB2.trans (b3.mono hB2.size)
  have hX := Whole.new w2 27 #[.int .u16 7, .slice (some ⟨w1.heap.size, 0, none⟩) k k, .slice none 0 0]
  have hN := (node_leaf hL (by unfold maxLen; omega)).on b3
  have hC := check_leaf _ _ k (by omega) hN
  rw [if_pos H1.out] at hC
  have hlt := hX.lt
  go_wp2_with fail
  refine hC.mono ?_
  rintro e w4 ⟨rfl, b4⟩
  have hX4 := hX.below b4 hlt
  have hN4 := hN.on b4
  have hB4 := hB3.trans (b4.mono hB3.size)
  have p0 := hX4.cell 0
  have p1 := hX4.cell 1
  have p2 := hX4.cell 2
  simp only [List.getElem?_toArray, List.getElem?_cons_zero, List.getElem?_cons_succ] at p0 p1 p2
  have hD : ∀ W, Calls Tryd.prog 10 #[codeE 7, .int .i64 7] W fun e w' => e = .returned (.bool true) ∧ W = w' := fun W => coded_any 7 W
  go_wp2_with fail
  refine (hD w4).mono ?_
  rintro e w5 ⟨rfl, rfl⟩
  have hS := size_leaf w4 _ k (by omega) hN4
  rw [show ((4 + k : Nat) : Int) = (k : Int) + 4 by omega] at hS
  go_wp2_with fail
  refine hS.mono ?_
  rintro e w6 ⟨rfl, b6⟩
  go_wp2_with fail
  go_ret
  exact ⟨rfl, hB4.trans (b6.mono hB4.size)⟩
set_option maxRecDepth 100000 in
set_option maxHeartbeats 4000000 in
theorem nl_f_lo (n m : Nat) (hn : n < 256) (hm : Int.tmod (n : Int) 20 = (m : Int)) (hm20 : m < 20) (k : Nat) (hk : 65520 + m = k) (h1 : ¬ 65531 < k) (w : World) (hh : Handle w) :
    Calls Tryd.prog 4 #[.int .u8 (n : Int), .bool false] w fun e w' => e = .returned (.bool true) ∧ Below w.heap.size w w' := by
  have HW := Lib.hid (show (65520 : Int) + (m : Int) = (k : Int) by omega)
  have HK1 := Lib.hid (show k < 65540 by omega)
  have HK2 := Lib.hid (show 65520 ≤ k by omega)
  clear hk
  obtain ⟨i0, hi, hz0, hz1, hz2⟩ := made_u8
  have t1 : decide ((65535 : Int) < (k : Int) + 4) = false := decide_eq_false (by omega)
  have t2 : decide ((65531 : Int) < (k : Int)) = false := decide_eq_false (by omega)
  have H1 := Lib.hid h1
  clear h1
  go_enter Tryd.func4, Tryd.ntmps4
  go_wp2_with fail
  refine (awake_any w hh).mono ?_
  rintro e w1 ⟨rfl, b1⟩
  go_upto_region 4 with fail
  rw [HW.out]
  have hk1 := HK1.out
  have hk2 := HK2.out
  clear HW HK1 HK2 hm hm20 hn
  go_wp2_with (at_make; refine wpList_make_full _ rfl (.tmp 15) (.tmp 15) 24 rfl w1.heap.size 5 i0 _ 1 Tryd.underlying24 hi hz0 hz1 .i64 .i64 _ _ k rfl rfl rfl rfl (by rw [hz2]; omega) (by unfold maxLen; omega) (Nat.le_refl _) ?_; intro w2 hown hgrow)
  have hL := bytes_new hown
  have b2 : Below w1.heap.size w1 w2 := (Below.refl _ w1).grown hgrow (Nat.le_refl _) (by simp)
  have hB2 := b1.trans (b2.mono b1.size)
  clear hown hgrow
  have b3 : Below w2.heap.size w2 (w2.alloc (.cells #[.int .u16 7, .slice (some ⟨w1.heap.size, 0, none⟩) k k, .slice none 0 0] 27)) := (Below.refl _ w2).alloc (Nat.le_refl _) _
  have hB3 := hB2.trans (b3.mono hB2.size)
  have hX := Whole.new w2 27 #[.int .u16 7, .slice (some ⟨w1.heap.size, 0, none⟩) k k, .slice none 0 0]
  have hN := (node_leaf hL (by unfold maxLen; omega)).on b3
  have hC := check_leaf _ _ k (by omega) hN
  rw [if_neg H1.out] at hC
  have hlt := hX.lt
  go_wp2_with fail
  refine hC.mono ?_
  rintro e w4 ⟨rfl, b4⟩
  have hX4 := hX.below b4 hlt
  have hN4 := hN.on b4
  have hB4 := hB3.trans (b4.mono hB3.size)
  have p0 := hX4.cell 0
  have p1 := hX4.cell 1
  have p2 := hX4.cell 2
  simp only [List.getElem?_toArray, List.getElem?_cons_zero, List.getElem?_cons_succ] at p0 p1 p2
  have hD : ∀ W, Calls Tryd.prog 10 #[codeE 0, .int .i64 0] W fun e w' => e = .returned (.bool true) ∧ W = w' := fun W => coded_any 0 W
  go_wp2_with fail
  refine (hD w4).mono ?_
  rintro e w5 ⟨rfl, rfl⟩
  have hS := size_leaf w4 _ k (by omega) hN4
  rw [show ((4 + k : Nat) : Int) = (k : Int) + 4 by omega] at hS
  go_wp2_with fail
  refine hS.mono ?_
  rintro e w6 ⟨rfl, b6⟩
  go_wp2_with fail
  go_ret
  exact ⟨rfl, hB4.trans (b6.mono hB4.size)⟩
set_option maxRecDepth 100000 in
set_option maxHeartbeats 4000000 in
theorem nl_t_hi (n m : Nat) (hn : n < 256) (hm : Int.tmod (n : Int) 20 = (m : Int)) (hm20 : m < 20) (k : Nat) (hk : 65520 + m = k) (h1 : 65531 < k) (w : World) (hh : Handle w) :
    Calls Tryd.prog 4 #[.int .u8 (n : Int), .bool true] w fun e w' => e = .returned (.bool true) ∧ Below w.heap.size w w' := by
  have HW := Lib.hid (show (65520 : Int) + (m : Int) = (k : Int) by omega)
  have HK1 := Lib.hid (show k < 65540 by omega)
  have HK2 := Lib.hid (show 65520 ≤ k by omega)
  clear hk
  obtain ⟨i0, hi, hz0, hz1, hz2⟩ := made_u8
  have t1 : (65535 : Int) < (k : Int) + 8 := by omega
  have t2 : (65531 : Int) < (k : Int) := by omega
  have H1 := Lib.hid h1
  clear h1
  go_enter Tryd.func4, Tryd.ntmps4
  go_wp2_with fail
  refine (awake_any w hh).mono ?_
  rintro e w1 ⟨rfl, b1⟩
  go_upto_region 4 with fail
  rw [HW.out]
  have hk1 := HK1.out
  have hk2 := HK2.out
  clear HW HK1 HK2 hm hm20 hn
  go_wp2_with (at_make; refine wpList_make_full _ rfl (.tmp 15) (.tmp 15) 24 rfl w1.heap.size 5 i0 _ 1 Tryd.underlying24 hi hz0 hz1 .i64 .i64 _ _ k rfl rfl rfl rfl (by rw [hz2]; omega) (by unfold maxLen; omega) (Nat.le_refl _) ?_; intro w2 hown hgrow)
  have hL := bytes_new hown
  have b2 : Below w1.heap.size w1 w2 := (Below.refl _ w1).grown hgrow (Nat.le_refl _) (by simp)
  have hB2 := b1.trans (b2.mono b1.size)
  clear hown hgrow
  have b3 : Below w2.heap.size w2 (w2.alloc (.cells #[.int .u16 7, .slice (some ⟨w1.heap.size, 0, none⟩) k k, .slice none 0 0] 27)) := (Below.refl _ w2).alloc (Nat.le_refl _) _
  have hB3 := hB2.trans (b3.mono hB2.size)
  have hX := Whole.new w2 27 #[.int .u16 7, .slice (some ⟨w1.heap.size, 0, none⟩) k k, .slice none 0 0]
  have hN := (node_leaf hL (by unfold maxLen; omega)).on b3
  have x1 := (Whole.new w2 27 #[.int .u16 8, .slice none 0 0, .slice (some ⟨w2.heap.size + 1, 0, none⟩) 1 1]).alloc (.cells #[.int .u16 7, .slice (some ⟨w1.heap.size, 0, none⟩) k k, .slice none 0 0] 27)
  have x2 := (Whole.new (w2.alloc (.cells #[.int .u16 8, .slice none 0 0, .slice (some ⟨w2.heap.size + 1, 0, none⟩) 1 1] 27)) 27 #[.int .u16 7, .slice (some ⟨w1.heap.size, 0, none⟩) k k, .slice none 0 0])
  rw [World.size_alloc] at x2
  have b4 : Below w2.heap.size w2 ((w2.alloc (.cells #[.int .u16 8, .slice none 0 0, .slice (some ⟨w2.heap.size + 1, 0, none⟩) 1 1] 27)).alloc (.cells #[.int .u16 7, .slice (some ⟨w1.heap.size, 0, none⟩) k k, .slice none 0 0] 27)) := ((Below.refl _ w2).alloc (Nat.le_refl _) _).alloc (by simp) _
  have hN2 := (node_leaf hL (by unfold maxLen; omega)).on b4
  have hN3 := node_in _ _ _ hN2 x2
  have hC := check_in _ k (by omega) hN3
  rw [if_pos H1.out] at hC
  have hlt := x1.lt
  have hB3 := hB2.trans (b4.mono hB2.size)
  clear hX hN x2 b3
  go_wp2_with fail
  refine hC.mono ?_
  rintro e w4 ⟨rfl, b4⟩
  have hX4 := Whole.below x1 b4 hlt
  have hN4 := hN3.on b4
  have hB4 := hB3.trans (b4.mono hB3.size)
  have p0 := hX4.cell 0
  have p1 := hX4.cell 1
  have p2 := hX4.cell 2
  simp only [List.getElem?_toArray, List.getElem?_cons_zero, List.getElem?_cons_succ] at p0 p1 p2
  have hD : ∀ W, Calls Tryd.prog 10 #[codeE 7, .int .i64 7] W fun e w' => e = .returned (.bool true) ∧ W = w' := fun W => coded_any 7 W
  go_wp2_with fail
  refine (hD w4).mono ?_
  rintro e w5 ⟨rfl, rfl⟩
  have hS := size_in w4 k (by omega) hN4
  rw [show ((4 + (k + 4) : Nat) : Int) = (k : Int) + 8 by omega] at hS
  go_wp2_with fail
  refine hS.mono ?_
  rintro e w6 ⟨rfl, b6⟩
  go_wp2_with fail
  go_ret
  exact ⟨rfl, hB4.trans (b6.mono hB4.size)⟩
set_option maxRecDepth 100000 in
set_option maxHeartbeats 4000000 in
theorem nl_t_mid (n m : Nat) (hn : n < 256) (hm : Int.tmod (n : Int) 20 = (m : Int)) (hm20 : m < 20) (k : Nat) (hk : 65520 + m = k) (h1 : ¬ 65531 < k) (h2 : 65527 < k) (w : World) (hh : Handle w) :
    Calls Tryd.prog 4 #[.int .u8 (n : Int), .bool true] w fun e w' => e = .returned (.bool true) ∧ Below w.heap.size w w' := by
  have HW := Lib.hid (show (65520 : Int) + (m : Int) = (k : Int) by omega)
  have HK1 := Lib.hid (show k < 65540 by omega)
  have HK2 := Lib.hid (show 65520 ≤ k by omega)
  clear hk
  obtain ⟨i0, hi, hz0, hz1, hz2⟩ := made_u8
  have t1 : (65535 : Int) < (k : Int) + 8 := by omega
  have t2 : ¬ (65531 : Int) < (k : Int) := by omega
  have H1 := Lib.hid h1
  clear h1
  go_enter Tryd.func4, Tryd.ntmps4
  go_wp2_with fail
  refine (awake_any w hh).mono ?_
  rintro e w1 ⟨rfl, b1⟩
  go_upto_region 4 with fail
  rw [HW.out]
  have hk1 := HK1.out
  have hk2 := HK2.out
  clear HW HK1 HK2 hm hm20 hn
  go_wp2_with (at_make; refine wpList_make_full _ rfl (.tmp 15) (.tmp 15) 24 rfl w1.heap.size 5 i0 _ 1 Tryd.underlying24 hi hz0 hz1 .i64 .i64 _ _ k rfl rfl rfl rfl (by rw [hz2]; omega) (by unfold maxLen; omega) (Nat.le_refl _) ?_; intro w2 hown hgrow)
  have hL := bytes_new hown
  have b2 : Below w1.heap.size w1 w2 := (Below.refl _ w1).grown hgrow (Nat.le_refl _) (by simp)
  have hB2 := b1.trans (b2.mono b1.size)
  clear hown hgrow
  have b3 : Below w2.heap.size w2 (w2.alloc (.cells #[.int .u16 7, .slice (some ⟨w1.heap.size, 0, none⟩) k k, .slice none 0 0] 27)) := (Below.refl _ w2).alloc (Nat.le_refl _) _
  have hB3 := hB2.trans (b3.mono hB2.size)
  have hX := Whole.new w2 27 #[.int .u16 7, .slice (some ⟨w1.heap.size, 0, none⟩) k k, .slice none 0 0]
  have hN := (node_leaf hL (by unfold maxLen; omega)).on b3
  have x1 := (Whole.new w2 27 #[.int .u16 8, .slice none 0 0, .slice (some ⟨w2.heap.size + 1, 0, none⟩) 1 1]).alloc (.cells #[.int .u16 7, .slice (some ⟨w1.heap.size, 0, none⟩) k k, .slice none 0 0] 27)
  have x2 := (Whole.new (w2.alloc (.cells #[.int .u16 8, .slice none 0 0, .slice (some ⟨w2.heap.size + 1, 0, none⟩) 1 1] 27)) 27 #[.int .u16 7, .slice (some ⟨w1.heap.size, 0, none⟩) k k, .slice none 0 0])
  rw [World.size_alloc] at x2
  have b4 : Below w2.heap.size w2 ((w2.alloc (.cells #[.int .u16 8, .slice none 0 0, .slice (some ⟨w2.heap.size + 1, 0, none⟩) 1 1] 27)).alloc (.cells #[.int .u16 7, .slice (some ⟨w1.heap.size, 0, none⟩) k k, .slice none 0 0] 27)) := ((Below.refl _ w2).alloc (Nat.le_refl _) _).alloc (by simp) _
  have hN2 := (node_leaf hL (by unfold maxLen; omega)).on b4
  have hN3 := node_in _ _ _ hN2 x2
  have hC := check_in _ k (by omega) hN3
  rw [if_neg H1.out, if_pos h2] at hC
  have hlt := x1.lt
  have hB3 := hB2.trans (b4.mono hB2.size)
  clear hX hN x2 b3
  go_wp2_with fail
  refine hC.mono ?_
  rintro e w4 ⟨rfl, b4⟩
  have hX4 := Whole.below x1 b4 hlt
  have hN4 := hN3.on b4
  have hB4 := hB3.trans (b4.mono hB3.size)
  have p0 := hX4.cell 0
  have p1 := hX4.cell 1
  have p2 := hX4.cell 2
  simp only [List.getElem?_toArray, List.getElem?_cons_zero, List.getElem?_cons_succ] at p0 p1 p2
  have hD : ∀ W, Calls Tryd.prog 10 #[codeE 4, .int .i64 4] W fun e w' => e = .returned (.bool true) ∧ W = w' := fun W => coded_any 4 W
  go_wp2_with fail
  refine (hD w4).mono ?_
  rintro e w5 ⟨rfl, rfl⟩
  have hS := size_in w4 k (by omega) hN4
  rw [show ((4 + (k + 4) : Nat) : Int) = (k : Int) + 8 by omega] at hS
  go_wp2_with fail
  refine hS.mono ?_
  rintro e w6 ⟨rfl, b6⟩
  go_wp2_with fail
  go_ret
  exact ⟨rfl, hB4.trans (b6.mono hB4.size)⟩
set_option maxRecDepth 100000 in
set_option maxHeartbeats 4000000 in
theorem nl_t_lo (n m : Nat) (hn : n < 256) (hm : Int.tmod (n : Int) 20 = (m : Int)) (hm20 : m < 20) (k : Nat) (hk : 65520 + m = k) (h1 : ¬ 65531 < k) (h2 : ¬ 65527 < k) (w : World) (hh : Handle w) :
    Calls Tryd.prog 4 #[.int .u8 (n : Int), .bool true] w fun e w' => e = .returned (.bool true) ∧ Below w.heap.size w w' := by
  have HW := Lib.hid (show (65520 : Int) + (m : Int) = (k : Int) by omega)
  have HK1 := Lib.hid (show k < 65540 by omega)
  have HK2 := Lib.hid (show 65520 ≤ k by omega)
  clear hk
  obtain ⟨i0, hi, hz0, hz1, hz2⟩ := made_u8
  have t1 : decide ((65535 : Int) < (k : Int) + 8) = false := decide_eq_false (by omega)
  have t2 : decide ((65531 : Int) < (k : Int)) = false := decide_eq_false (by omega)
  have H1 := Lib.hid h1
  clear h1
  go_enter Tryd.func4, Tryd.ntmps4
  go_wp2_with fail
  refine (awake_any w hh).mono ?_
  rintro e w1 ⟨rfl, b1⟩
  go_upto_region 4 with fail
  rw [HW.out]
  have hk1 := HK1.out
  have hk2 := HK2.out
  clear HW HK1 HK2 hm hm20 hn
  go_wp2_with (at_make; refine wpList_make_full _ rfl (.tmp 15) (.tmp 15) 24 rfl w1.heap.size 5 i0 _ 1 Tryd.underlying24 hi hz0 hz1 .i64 .i64 _ _ k rfl rfl rfl rfl (by rw [hz2]; omega) (by unfold maxLen; omega) (Nat.le_refl _) ?_; intro w2 hown hgrow)
  have hL := bytes_new hown
  have b2 : Below w1.heap.size w1 w2 := (Below.refl _ w1).grown hgrow (Nat.le_refl _) (by simp)
  have hB2 := b1.trans (b2.mono b1.size)
  clear hown hgrow
  have b3 : Below w2.heap.size w2 (w2.alloc (.cells #[.int .u16 7, .slice (some ⟨w1.heap.size, 0, none⟩) k k, .slice none 0 0] 27)) := (Below.refl _ w2).alloc (Nat.le_refl _) _
  have hB3 := hB2.trans (b3.mono hB2.size)
  have hX := Whole.new w2 27 #[.int .u16 7, .slice (some ⟨w1.heap.size, 0, none⟩) k k, .slice none 0 0]
  have hN := (node_leaf hL (by unfold maxLen; omega)).on b3
  have x1 := (Whole.new w2 27 #[.int .u16 8, .slice none 0 0, .slice (some ⟨w2.heap.size + 1, 0, none⟩) 1 1]).alloc (.cells #[.int .u16 7, .slice (some ⟨w1.heap.size, 0, none⟩) k k, .slice none 0 0] 27)
  have x2 := (Whole.new (w2.alloc (.cells #[.int .u16 8, .slice none 0 0, .slice (some ⟨w2.heap.size + 1, 0, none⟩) 1 1] 27)) 27 #[.int .u16 7, .slice (some ⟨w1.heap.size, 0, none⟩) k k, .slice none 0 0])
  rw [World.size_alloc] at x2
  have b4 : Below w2.heap.size w2 ((w2.alloc (.cells #[.int .u16 8, .slice none 0 0, .slice (some ⟨w2.heap.size + 1, 0, none⟩) 1 1] 27)).alloc (.cells #[.int .u16 7, .slice (some ⟨w1.heap.size, 0, none⟩) k k, .slice none 0 0] 27)) := ((Below.refl _ w2).alloc (Nat.le_refl _) _).alloc (by simp) _
  have hN2 := (node_leaf hL (by unfold maxLen; omega)).on b4
  have hN3 := node_in _ _ _ hN2 x2
  have hC := check_in _ k (by omega) hN3
  rw [if_neg H1.out, if_neg h2] at hC
  have hlt := x1.lt
  have hB3 := hB2.trans (b4.mono hB2.size)
  clear hX hN x2 b3
  go_wp2_with fail
  refine hC.mono ?_
  rintro e w4 ⟨rfl, b4⟩
  have hX4 := Whole.below x1 b4 hlt
  have hN4 := hN3.on b4
  have hB4 := hB3.trans (b4.mono hB3.size)
  have p0 := hX4.cell 0
  have p1 := hX4.cell 1
  have p2 := hX4.cell 2
  simp only [List.getElem?_toArray, List.getElem?_cons_zero, List.getElem?_cons_succ] at p0 p1 p2
  have hD : ∀ W, Calls Tryd.prog 10 #[codeE 0, .int .i64 0] W fun e w' => e = .returned (.bool true) ∧ W = w' := fun W => coded_any 0 W
  go_wp2_with fail
  refine (hD w4).mono ?_
  rintro e w5 ⟨rfl, rfl⟩
  have hS := size_in w4 k (by omega) hN4
  rw [show ((4 + (k + 4) : Nat) : Int) = (k : Int) + 8 by omega] at hS
  go_wp2_with fail
  refine hS.mono ?_
  rintro e w6 ⟨rfl, b6⟩
  go_wp2_with fail
  go_ret
  exact ⟨rfl, hB4.trans (b6.mono hB4.size)⟩
set_option maxRecDepth 100000 in
theorem law_NodeLimits {H : Type} {enc : TypeId × Value → H} {W : World} {base : Nat} {v0 v1 : Value} {d0 d1 : DataW H} {p0 p1 : List MemPlace}
    (o0 : Value.okWide Tryd.prog W .any base 5 v0) (h0 : DataW.Trod enc Tryd.prog W 0 (fun _ => true) true 5 v0 d0 p0) (_s0 : Small Tryd.prog 5 d0)
    (o1 : Value.okWide Tryd.prog W .any base 4 v1) (_h1 : DataW.Trod enc Tryd.prog W 0 (fun _ => true) true 4 v1 d1 p1) (_s1 : Small Tryd.prog 4 d1) (hL : laidMetH Tryd.prog laidL W) :
    Calls Tryd.prog 4 #[v0, v1] W fun e w' => e = .returned (.bool true) ∧ Below W.heap.size W w' := by
  obtain ⟨n, rfl, _, _, wn⟩ := open_int Tryd.underlying5 o0 h0
  obtain ⟨b, rfl⟩ := okWide_bool Tryd.underlying4 o1
  have hb := wf_u8 wn
  obtain ⟨k, rfl⟩ : ∃ k : Nat, n = k := ⟨n.toNat, by omega⟩
  have hk : k < 256 := by omega
  have hm : Int.tmod (k : Int) 20 = ((k % 20 : Nat) : Int) := by
    rw [Int.tmod_eq_emod_of_nonneg (by omega)]
    omega
  have hm20 : k % 20 < 20 := Nat.mod_lt _ (by omega)
  generalize k % 20 = m at hm hm20
  have hh := handle_of_laid hL
  obtain ⟨q, hq⟩ : ∃ q : Nat, 65520 + m = q := ⟨_, rfl⟩
  cases b
  · by_cases h1 : 65531 < q
    · exact nl_f_hi k m hk hm hm20 q hq h1 W hh
    · exact nl_f_lo k m hk hm hm20 q hq h1 W hh
  · by_cases h1 : 65531 < q
    · exact nl_t_hi k m hk hm hm20 q hq h1 W hh
    · by_cases h2 : 65527 < q
      · exact nl_t_mid k m hk hm hm20 q hq h1 h2 W hh
      · exact nl_t_lo k m hk hm hm20 q hq h1 h2 W hh
end Go.Proofs.YteelhmegmfefoaaDoor
