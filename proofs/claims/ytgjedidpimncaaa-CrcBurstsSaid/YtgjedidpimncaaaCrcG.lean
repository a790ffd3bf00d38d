/- Layer 5: the checksum by a division of polynomials, in the program (Slow) and in the reference (Sum), for whatever bytes. -/
import Derived.Test.YtgjedidpimncaaaCrcF
import Derived.Test.YtgjedidpimncaaaPolyS
namespace Go.Proofs.Ytgjedidpimncaaa
open Go.RowKit

theorem ones32 (w : World) : Calls Try.prog 30 #[.int .i64 32] w fun e w' => ∃ A L, e = .returned (.slice A 32 32) ∧ Holds w' (fun i => decide (i < 32)) A 32 32 L ∧ Below w.heap.size w w' := by
  refine (ones_any 32 w (by omega) (by omega)).mono ?_
  rintro e w' ⟨rfl, h1, h2⟩
  have hc : Can (co (List.replicate 32 1)) (List.replicate 32 1) := can_of_red (by decide)
  refine ⟨_, _, rfl, h1.holds (hc.congr fun i => ?_) rfl, h2⟩
  by_cases hi : i < 32
  · rw [co_some (x := 1) (by rw [List.getElem?_replicate, if_pos hi])]; simp [hi]; rfl
  · rw [co_out (by simp; omega)]; simp [hi]
theorem gen_holds (w : World) : Calls Try.prog 44 #[] w fun e w' => ∃ A, e = .returned (.slice A 33 33) ∧ Lies w' w'.heap.size A (genL.map bv) ∧ Below w.heap.size w w' := by
  refine (generator_any w).mono ?_
  rintro e w' ⟨rfl, h1, h2⟩
  exact ⟨_, rfl, h1.lies h1.lt, h2⟩
theorem gen_rl' : rl genL = 32 + 1 := by decide
theorem remainder_any {f : Nat → Bool} {A : Option Addr} {n c : Nat} {L : List UInt8} {w : World} (h : Holds w f A n c L) (hn : n ≤ 10000) :
    Calls Try.prog 31 #[.slice A n c] w fun e w' => ∃ R, Rem f (co genL) 32 R ∧ e = .returned (.int .u32 (wd R 32 : Nat)) ∧ Below w.heap.size w w' := by
  go_enter Try.func31, Try.ntmps31
  go_wp2_with fail
  refine (gen_holds w).mono ?_
  rintro e w1 ⟨A1, rfl, hg1, b1⟩
  have h1 := h.below b1
  have hM := mod_holds (c' := 33) h1 hg1 hn (by rw [gen_len]; omega) gen_rl'
  rw [gen_len] at hM
  go_wp2_with fail
  refine hM.mono ?_
  rintro e w2 ⟨R, A2, n2, c2, L2, rfl, hR, h2, b2⟩
  have hn2 := h2.small hR.small
  go_wp2_with fail
  refine (word_holds h2 hn2).mono ?_
  rintro e w3 ⟨rfl, rfl⟩
  have HR := Lib.hid hR
  clear hR hM
  go_wp2_with fail
  go_ret
  exact ⟨R, HR.out, rfl, b1.trans (b2.mono b1.size)⟩
theorem not_nat {x : Nat} (h : x < 4294967296) : 4294967295 ^^^ x = 4294967295 - x := by
  refine Nat.eq_of_testBit_eq fun j => ?_
  rw [Nat.testBit_xor, show 4294967295 - x = 2 ^ 32 - (x + 1) by omega, Nat.testBit_two_pow_sub_succ (by omega), show (4294967295 : Nat) = 2 ^ 32 - 1 from rfl, Nat.testBit_two_pow_sub_one]
  by_cases hj : j < 32
  · rw [decide_eq_true hj]; simp
  · rw [decide_eq_false hj, Nat.testBit_lt_two_pow (Nat.lt_of_lt_of_le (m := 2 ^ 32) h (Nat.pow_le_pow_right (by omega) (by omega)))]; rfl
theorem not_u32 {x : Nat} (h : x < 4294967296) : bits BinOp.xor IntKind.u32 IntKind.u32.max (x : Int) = ((4294967295 - x : Nat) : Int) := by
  rw [← not_nat h, ← xor_u32 (by omega) h]
  rfl
theorem slow_any (A : Option Addr) (c : Nat) (b : List UInt8) (w : World) (h : Lies w w.heap.size A (b.map bv)) (hn : b.length ≤ 1000) :
    Calls Try.prog 11 #[.slice A b.length c] w fun e w' => e = .returned (.int .u32 (crcN b : Nat)) ∧ Below w.heap.size w w' := by
  have HO : Hid (∀ i, 8000 ≤ i → ofB b i = false) := fun i hi => ofB_out (by omega)
  have HS : Hid (∀ i, 8032 ≤ i → shl (ofB b) 32 i = false) := fun i hi => by unfold shl; rw [ofB_out (by omega), Bool.and_false]
  have HS2 : Hid (∀ i, 8032 ≤ i → shl (fun i => decide (i < 32)) (8 * b.length) i = false) := fun i hi => by show (decide (8 * b.length ≤ i) && decide (i - 8 * b.length < 32)) = false; rw [decide_eq_false (show ¬ i - 8 * b.length < 32 by omega), Bool.and_false]
  have HM : Hid (∀ R, Rem (fun i => shl (ofB b) 32 i ^^ shl (fun i => decide (i < 32)) (8 * b.length) i) (co genL) 32 R → 4294967295 - wd R 32 = crcN b ∧ wd R 32 < 4294967296) := fun R hR => by
    rw [msg_word (l := b) hR]
    exact ⟨rfl, feed_lt (by decide) b⟩
  have h8 : ((8 * b.length : Nat) : Int) = 8 * (b.length : Int) := by omega
  go_enter Try.func11, Try.ntmps11
  go_wp2_with fail
  refine (of_any A c b w h hn).mono ?_
  rintro e w1 ⟨A1, n1, c1, L1, rfl, h1, b1⟩
  have hn1 := h1.small HO.out
  go_wp2_with fail
  refine (shift_holds h1 32 (by omega) (by omega)).mono ?_
  rintro e w2 ⟨A2, n2, c2, L2, rfl, h2, b12⟩
  have hn2 := h2.small HS.out
  have b2 := b1.trans (b12.mono b1.size)
  clear b1 b12 h1 hn1
  go_wp2_with fail
  refine (ones32 w2).mono ?_
  rintro e w3 ⟨A3, L3, rfl, h3, b23⟩
  have h23 := h2.below b23
  have b3 := b2.trans (b23.mono b2.size)
  clear b2 b23 h2
  have hSh := shift_holds h3 (8 * b.length) (by omega) (by omega)
  rw [h8] at hSh
  go_wp2_with fail
  refine hSh.mono ?_
  rintro e w4 ⟨A4, n4, c4, L4, rfl, h4, b34⟩
  have hn4 := h4.small HS2.out
  have h24 := h23.below b34
  have b4 := b3.trans (b34.mono b3.size)
  clear b3 b34 h23 h3 hSh
  go_wp2_with fail
  refine (add_holds h24 h4 (by omega) (by omega)).mono ?_
  rintro e w5 ⟨A5, n5, c5, L5, rfl, h5, b45⟩
  have hn5 : n5 ≤ 8032 := h5.small fun i hi => by rw [HS.out i hi, HS2.out i hi]; rfl
  have b5 := b4.trans (b45.mono b4.size)
  clear b4 b45 h24 h4
  go_wp2_with fail
  refine (remainder_any h5 (by omega)).mono ?_
  rintro e w6 ⟨R, hR, rfl, b56⟩
  obtain ⟨e1, e2⟩ := HM.out R hR
  have HE := Lib.hid e1
  have HW := Lib.hid (not_u32 e2)
  clear hR e1 h5
  go_wp2_with fail
  go_ret
  exact ⟨ret_int (by rw [HW.out, HE.out]), b5.trans (b56.mono b5.size)⟩

/-! ### the reference -/
theorem step_append_any {P : Program} {w : World} {ops : Array Oper} {o : Oper} {a : Act} {K : Act → World → Prop} {Q : Exit → Act → World → Prop} {E : Prop} (hgd : o.guard = none) (s x : Operand) (t : TypeId)
    (ho : o.op = .call { callee := .builtin .append, args := #[s, x], argTypes := #[t, t] })
    (base : Nat) (e : TypeId) (z : Value) (bytes : Nat) (ht : P.underlying t = some (.slice e)) (hi : (P.info? e).map (fun i => (i.zero, i.size, i.bytes)) = some (some z, 1, bytes))
    (hzs : z.cells.size = 1) (v : Value) (n : Nat) (xs : List Value) (hs : a.eval s = v) (hown : w.ownsRow base e 1 v n xs)
    (B : Nat) (A : Option Addr) (m c : Nat) (news : List Value) (hx : a.eval x = .slice A m c) (hm : news.length = m) (hl : Lies w B A news) (h1 : ∀ u ∈ news, u.oneCell' = true)
    (hbytes : (n + m) * bytes ≤ 140737488355328) (h63 : n + m ≤ maxLen) (hbase : base ≤ w.heap.size)
    (h : ∀ A' c' w', w'.ownsRow base e 1 (.slice A' (n + m) c') (n + m) (xs ++ news) → w.grownBy w' v.ownBlock → (Value.slice A' (n + m) c' = .slice none 0 0 ↔ v = .slice none 0 0 ∧ m = 0) → K (a.put o.dst (.slice A' (n + m) c')) w') :
    if Region.wanted o (yielded ops a.tmps) = true then Oper.wp P o a w K Q else E := by
  have hw : Region.wanted o (yielded ops a.tmps) = true := by simp [Region.wanted, hgd]
  rw [if_pos hw]
  exact wp_append_lies w s x t ho base e z bytes ht hi hzs v n xs hs hown B A m c news hx hm hl h1 hbytes h63 hbase h
theorem rof_holds' (A : Option Addr) (c : Nat) (b : List UInt8) (w : World) (Z : List UInt8) (h : Lies w w.heap.size A (b.map bv)) (hn : b.length ≤ 1000) (hZ : Z.length ≤ 100000) :
    (Calls Try.prog 22 #[.slice A b.length c] (w.drew.alloc (.cells (Z.map bv).toArray 5)) fun e w' => ∃ A1 n1 c1 L1, e = .returned (.slice A1 n1 c1) ∧
      Hid (List.length L1 = n1 ∧ Can (ofB b) L1) ∧ Hid (w'.ownsRow w.heap.size 5 1 (.slice (some ⟨w.heap.size, 0, none⟩) Z.length Z.length) Z.length (Z.map bv)) ∧
      Hid (Lies w' w'.heap.size A1 (L1.map bv)) ∧ Hid (Below w.heap.size w w')) ∧
    (Calls Try.prog 22 #[.slice A b.length c] w.drew fun e w' => ∃ A1 n1 c1 L1, e = .returned (.slice A1 n1 c1) ∧
      Hid (List.length L1 = n1 ∧ Can (ofB b) L1) ∧ Hid ((w'.alloc (.cells (Z.map bv).toArray 5)).ownsRow w.heap.size 5 1 (.slice (some ⟨w'.heap.size, 0, none⟩) Z.length Z.length) Z.length (Z.map bv)) ∧
      Hid (Lies (w'.alloc (.cells (Z.map bv).toArray 5)) (w'.alloc (.cells (Z.map bv).toArray 5)).heap.size A1 (L1.map bv)) ∧ Hid (Below w.heap.size w (w'.alloc (.cells (Z.map bv).toArray 5)))) := by
  have hZm : Z.length ≤ maxLen := by unfold maxLen; omega
  constructor
  · generalize hO : Obj.cells (Z.map bv).toArray 5 = O
    have hs : (w.drew.alloc O).heap.size = w.heap.size + 1 := size_alloc w.drew O
    have hbz : Below w.heap.size w (w.drew.alloc O) := (Below.refl _ w).drew.alloc (Nat.le_refl _) _
    have hwz : Whole (w.drew.alloc O) w.heap.size 5 (Z.map bv).toArray := by rw [← hO]; exact Whole.new w.drew _ _
    generalize w.drew.alloc O = w1 at *
    refine (rof_any A c b w1 ((h.below hbz).more (by omega)) hn).mono ?_
    rintro e w' ⟨A1, n1, c1, L1, rfl, h1, h3⟩
    exact ⟨A1, n1, c1, L1, rfl, ⟨h1.len, h1.can⟩, whole_own (hwz.below h3 hwz.lt) (Nat.le_refl _) (by simp) hZm, h1.lies, hbz.trans (h3.mono hbz.size)⟩
  · refine (rof_any A c b w.drew h hn).mono ?_
    rintro e w' ⟨A1, n1, c1, L1, rfl, h1, h2⟩
    have hb' : Below w.heap.size w w' := (Below.refl _ w).drew.trans h2
    have hba : Below w'.heap.size w' (w'.alloc (.cells (Z.map bv).toArray 5)) := (Below.refl _ w').alloc (Nat.le_refl _) _
    exact ⟨A1, n1, c1, L1, rfl, ⟨h1.len, h1.can⟩, whole_own (Whole.new w' _ _) hb'.size (by simp) hZm, (h1.lies.below hba).more hba.size, hb'.alloc hb'.size _⟩
set_option maxHeartbeats 4000000 in
theorem rsum_any (A : Option Addr) (c : Nat) (b : List UInt8) (w : World) (h : Lies w w.heap.size A (b.map bv)) (hn : b.length ≤ 1000) :
    Calls Try.prog 9 #[.slice A b.length c] w fun e w' => e = .returned (.int .u32 (crcN b : Nat)) ∧ Below w.heap.size w w' := by
  have hmk : ∀ w, (Instr.makeSlice 24 (.int .i64 32) (.int .i64 32)).run Try.prog w = .ok (.slice (some ⟨w.heap.size, 0, none⟩) 32 32) (w.alloc (.cells ((bits8 (fun _ => false) 32).map bv).toArray 5)) := make_row 32 (by omega) 24 Try.underlying24
  obtain ⟨m, hm1, hm2⟩ : ∃ m, m ≤ 8 * b.length ∧ 8 * b.length ≤ m := ⟨_, Nat.le_refl _, Nat.le_refl _⟩
  have hO1 : Hid (∀ i, co (bits8 (fun _ => false) m ++ List.replicate 32 1) i = shl (fun i => decide (i < 32)) (8 * b.length) i) := fun i => by
    rw [co_shl, show m = 8 * b.length by omega]
    refine shl_congr (fun j => ?_) _ i
    by_cases hj : j < 32
    · rw [co_some (x := 1) (by rw [List.getElem?_replicate, if_pos hj]), decide_eq_true hj]; rfl
    · rw [co_out (by simp; omega), decide_eq_false hj]
  have hO2 : Hid (∀ k, (bits8 (fun _ => false) m ++ List.replicate k 1).length = m + k) := fun k => by rw [List.length_append, bits8_len, List.length_replicate]
  have hO3 : Hid (bits8 (fun _ => false) m ++ List.replicate 0 1 = bits8 (fun _ => false) m) := List.append_nil _
  have hO4 : Hid (∀ k, (bits8 (fun _ => false) m ++ List.replicate (k + 1) 1).map bv = (bits8 (fun _ => false) m ++ List.replicate k 1).map bv ++ [.int .u8 1]) := fun k => by
    rw [List.replicate_succ', ← List.append_assoc, List.map_append]; rfl
  have HM : Hid (∀ R, Rem (fun i => shl (ofB b) 32 i ^^ shl (fun i => decide (i < 32)) (8 * b.length) i) (co genL) 32 R → 4294967295 - wd R 32 = crcN b ∧ wd R 32 < 4294967296) := fun R hR => by
    rw [msg_word (l := b) hR]
    exact ⟨rfl, feed_lt (by decide) b⟩
  obtain ⟨hA, hB⟩ := rof_holds' A c b w (bits8 (fun _ => false) 32) h hn (by rw [bits8_len]; omega)
  rw [bits8_len] at hA hB
  have HC : Hid (∀ L n, List.length L = n ∧ Can (ofB b) L → ∀ i, co (bits8 (fun _ => false) 32 ++ L) i = shl (ofB b) 32 i) := fun L n hL i => by
    rw [co_shl]; exact shl_congr hL.2.co 32 i
  have HLn : Hid (∀ L n, List.length L = n ∧ Can (ofB b) L → n ≤ 8000) := fun L n hL => by
    rw [← hL.1]; exact hL.2.le fun i hi => ofB_out (by omega)
  have HZ : Hid (∀ L : List UInt8, (bits8 (fun _ => false) 32).map bv ++ L.map bv = (bits8 (fun _ => false) 32 ++ L).map bv) := fun L => by rw [List.map_append]
  have HZl : Hid (∀ L : List UInt8, (bits8 (fun _ => false) 32 ++ L).length = 32 + L.length) := fun L => by rw [List.length_append, bits8_len]
  have ho : ∀ L : List UInt8, ∀ u ∈ L.map bv, u.oneCell' = true := one_bytes
  generalize bits8 (fun _ => false) 32 = Z at *
  generalize hZ2 : Z.map bv = Zv at *
  go_enter Try.func9, Try.ntmps9
  go_upto_region 1 with fail
  go_region_law (first
    | (go_simp; go_at_call 22; first
      | (refine hA.mono ?_; rintro e w1 ⟨A1, n1, c1, L1, rfl, hL, hown, hlies, hbel⟩)
      | (refine hB.mono ?_; rintro e w1 ⟨A1, n1, c1, L1, rfl, hL, hown, hlies, hbel⟩))
    | (refine step_append_any rfl (.tmp 8) (.tmp 10) 24 rfl w.heap.size 5 (.int .u8 0) 1 Try.underlying24 u8info rfl _ 32 Zv (by simp [Act.eval]) hown.out _ A1 n1 c1 _ (by simp [Act.eval]) (by rw [List.length_map]; exact hL.out.1) hlies.out (ho _) (by have := HLn.out _ _ hL.out; omega) (by have := HLn.out _ _ hL.out; unfold maxLen; omega) hbel.out.size ?_; intro A4 c4 w4 hown4 hgrow4 _))
  all_goals
    have HB4 := hbel.out.grown hgrow4 hbel.out.size (fun j e => (hown.out.lt j e).1)
    have hl4 : Lies w4 w4.heap.size A4 ((Z ++ L1).map bv) := by rw [← HZ.out]; exact Lies.own hown4
    have hco := Lib.hid (HC.out _ _ hL.out)
    have hlen : (Z ++ L1).length = 32 + n1 := by rw [HZl.out, hL.out.1]
    have hn1 := HLn.out _ _ hL.out
    have Hlen := Lib.hid hlen
    clear hlen hgrow4 hown4 hown hlies hbel hL hA hB hmk HZ HZl HC HLn ho
    generalize Z ++ L1 = M at *
    go_wp2_with (at_make; refine wpList_make_zeros _ rfl (.tmp 14) (.tmp 14) 24 rfl Try.underlying24 _ m rfl rfl (by omega) (by omega) ?_; intro w5 hrow5 hb5)
    have hl5 := (hl4.below hb5).more hb5.size
    have hbw5 := HB4.trans (hb5.mono HB4.size)
    have hs5 : w4.heap.size < w5.heap.size := hrow5.lt
    have hown5 : w5.ownsRow w4.heap.size 5 1 (.slice (some ⟨w4.heap.size, 0, none⟩) (m + 0) m) (m + 0) ((bits8 (fun _ => false) m ++ List.replicate 0 1).map bv) := by
      rw [hO3.out]
      exact whole_own hrow5 (Nat.le_refl _) (by simp [bits8_len]) (by unfold maxLen; omega)
    have HO5 := Lib.hid hown5
    clear hown5 hrow5
    go_loopw [4, 5] (fun v i wr => ∃ (k : Nat) (A' : Option Addr) (c' : Nat), k ≤ 32 ∧ i = .int .i64 k ∧ v = .slice A' (m + k) c' ∧
      wr.ownsRow w4.heap.size 5 1 (.slice A' (m + k) c') (m + k) ((bits8 (fun _ => false) m ++ List.replicate k 1).map bv) ∧ Below w4.heap.size w4 wr) (fun _ i _ => 32 - (intOf i).toNat)
    case atStart => exact ⟨0, _, m, by omega, rfl, rfl, HO5.out, hb5⟩
    case round =>
      obtain ⟨k, A6, c6, hk, rfl, rfl, hown6, hb6⟩ := hrel
      by_cases hlt : k < 32
      · have hsz := Lib.hid hb6.size
        go_wp2_with (at_builtin; refine wpList_append_lies _ rfl (.tmp 20) (.tmp 21) 24 rfl w4.heap.size 5 _ 1 Try.underlying24 u8info rfl _ _ _ rfl (hown6.alloc _) _ _ 1 1 _ rfl rfl (Lies.new1 _ _ _) (by intro u hu; rw [List.mem_singleton.1 hu]; rfl) (by omega) (by unfold maxLen; omega) (by simp; have := hsz.out; omega) ?_; intro A7 c7 w7 hown7 hgrow7 _)
        have hbel7 := below_own (hb6.alloc hb6.size _) (hown6.alloc _) hgrow7 (Nat.le_refl _) (by simp; have := hb6.size; omega)
        have H7 : Hid (w7.ownsRow w4.heap.size 5 1 (.slice A7 (m + (k + 1)) c7) (m + (k + 1)) ((bits8 (fun _ => false) m ++ List.replicate (k + 1) 1).map bv)) := by
          rw [Hid, hO4.out]
          exact hown7
        clear hown7 hown6 hgrow7
        go_wp2
        go_roundw
        case rel => exact ⟨k + 1, A7, c7, by omega, by go_num, rfl, H7.out, hbel7⟩
        case measure => simp [intOf]; omega
      · obtain rfl : k = 32 := by omega
        have hlo := Lies.own hown6
        have hO2' := Lib.hid (hO2.out 32)
        have hlm := (hl4.below hb6).more hb6.size
        have hbw6 := HB4.trans (hb6.mono HB4.size)
        have hAdd := radd_any A4 A6 c4 c6 M _ wr hlm hlo (by rw [Hlen.out]; omega) (by rw [hO2'.out]; omega)
        rw [Hlen.out, hO2'.out] at hAdd
        clear hown6 hO2 hO3 hO4
        generalize bits8 (fun _ => false) m ++ List.replicate 32 1 = O at *
        go_wp2_with fail
        refine hAdd.mono ?_
        rintro e w8 ⟨A8, n8, c8, L8, rfl, h8, b8⟩
        have hn8 : n8 ≤ 8032 := h8.small fun i hi => by
          rw [hco.out, hO1.out]
          have e1 : shl (ofB b) 32 i = false := by unfold shl; rw [ofB_out (by omega), Bool.and_false]
          have e2 : shl (fun i => decide (i < 32)) (8 * b.length) i = false := by
            show (decide (8 * b.length ≤ i) && decide (i - 8 * b.length < 32)) = false
            rw [decide_eq_false (show ¬ i - 8 * b.length < 32 by omega), Bool.and_false]
          rw [e1, e2]; rfl
        have hbw8 := hbw6.trans (b8.mono hbw6.size)
        go_wp2_with fail
        refine (rgenerator_any w8).mono ?_
        rintro e w9 ⟨A9, n9, c9, L9, rfl, h9, b89⟩
        have hbw9 := hbw8.trans (b89.mono hbw8.size)
        have h89 := h8.below b89
        have e9 : L9 = genL := h9.can.uniq gen_can (fun _ => rfl)
        have hn9 : n9 = 33 := by rw [← h9.len, e9, gen_len]
        subst hn9
        have hMod := rmod_any A8 A9 c8 c9 32 L8 L9 w9 h89.lies h9.lies (by rw [h89.len]; omega) (by rw [h9.len]; omega) (by rw [e9]; exact gen_rl')
        rw [h89.len, h9.len, h89.co_eq, e9] at hMod
        clear h8 h89 h9 e9 hAdd hlm hlo
        go_wp2_with fail
        refine hMod.mono ?_
        rintro e w10 ⟨R, A10, n10, c10, L10, rfl, hR, h10, b910⟩
        have hbw10 := hbw9.trans (b910.mono hbw9.size)
        obtain ⟨e1, e2⟩ := HM.out R ⟨hR.quo.congr (fun i => by rw [hco.out, hO1.out]) fun _ => rfl, hR.small⟩
        have HE := Lib.hid e1
        have hW := rword_holds h10
        clear hR e1 h10 hMod
        go_wp2_with fail
        refine hW.mono ?_
        rintro e w11 ⟨rfl, rfl⟩
        go_wp2_with fail
        go_ret
        exact ⟨ret_int (by rw [← HE.out]; omega), hbw10⟩
end Go.Proofs.Ytgjedidpimncaaa
