/- Layer 4, the reference: shifts, the polynomial of bytes, words, the generator, for whatever arguments. -/
import Derived.Test.YtgjedidpimncaaaPolyO
namespace Go.Proofs.Ytgjedidpimncaaa
open Go.RowKit

theorem co_shl (p : List UInt8) (n i : Nat) : co (bits8 (fun _ => false) n ++ p) i = shl (co p) n i := by
  unfold shl
  rw [co_append, bits8_len]
  by_cases h : i < n
  · rw [if_pos h, co_bits8, decide_eq_false (show ¬ n ≤ i by omega)]; simp
  · rw [if_neg h, decide_eq_true (show n ≤ i by omega)]; simp
theorem rword_any (A : Option Addr) (c B : Nat) (p : List UInt8) (w : World) (hp : Lies w B A (p.map bv)) :
    Calls Try.prog 26 #[.slice A p.length c] w fun e w' => e = .returned (.int .u32 (wd (co p) 32 : Nat)) ∧ w = w' := by
  have HE : Hid (wd (co p) 32 = rn (co p) 32) := by unfold Hid wd; simp
  have HN : Hid (∀ k, rn (co p) (k + 1) = 2 * rn (co p) k + (co p k).toNat) := fun k => rfl
  have HL : Hid (∀ k, k < 32 → rn (co p) k < 2147483648) := fun k hk => Nat.lt_of_lt_of_le (rn_lt (co p) k) (by
    have := Nat.pow_le_pow_right (n := 2) (by omega) (show k ≤ 31 by omega)
    omega)
  have HZ : Hid (rn (co p) 0 = 0) := rfl
  generalize rn (co p) = r at *
  go_enter Try.func26, Try.ntmps26
  go_wp2
  go_loop [4, 3] (fun i v => ∃ k : Nat, k ≤ 32 ∧ i = .int .i64 k ∧ v = .int .u32 (r k : Nat)) (fun i _ => 32 - (intOf i).toNat)
  case atStart => exact ⟨0, Nat.zero_le _, rfl, by rw [HZ.out]; rfl⟩
  case round =>
    obtain ⟨k, hk, rfl, rfl⟩ := hrel
    by_cases hlt : k < 32
    · have h1 := HL.out k hlt
      have h2 := Lib.hid (HN.out k)
      have hA := rat_any A c B p k w hp (by omega)
      have ht := Bool.toNat_le (co p k)
      generalize (co p k).toNat = t at *
      generalize r k = s at *
      go_wp2_with (go_at_call 38; refine hA.mono ?_; rintro e w' ⟨rfl, rfl⟩)
      go_round
      case rel => exact ⟨k + 1, by omega, by go_num, by rw [h2.out]; congr 1; omega⟩
      case measure => simp [intOf]; omega
    · have hk : k = 32 := by omega
      subst hk
      generalize r 32 = s at *
      go_wp2
      go_ret
      exact ⟨ret_int (by rw [HE.out]), rfl⟩

/-! ### Of -/
theorem rof_any (A : Option Addr) (c : Nat) (b : List UInt8) (w : World) (h : Lies w w.heap.size A (b.map bv)) (hn : b.length ≤ 1000) :
    Calls Try.prog 22 #[.slice A b.length c] w fun e w' => ∃ A' n' c' L, e = .returned (.slice A' n' c') ∧
      Holds w' (ofB b) A' n' c' L ∧ Below w.heap.size w w' := by
  have HO : Hid (∀ i, 8 * b.length ≤ i → ofB b i = false) := fun i hi => ofB_out hi
  have HSn : Hid (∀ k, bits8 (ofB b) (k + 1) = bits8 (ofB b) k ++ [b8 (ofB b k)]) := bits8_snoc (ofB b)
  go_enter Try.func22, Try.ntmps22
  go_wp2
  go_loopw [4, 3] (fun i v wr => ∃ (t m : Nat) (A' : Option Addr) (c' : Nat), t ≤ b.length ∧ m + 8 * t = 8 * b.length ∧ i = .int .i64 ((t : Int) - 1) ∧ v = .slice A' m c' ∧
      wr.ownsRow w.heap.size 5 1 (.slice A' m c') m ((bits8 (ofB b) m).map bv) ∧ Below w.heap.size w wr) (fun i _ _ => (intOf i + 1).toNat)
  case atStart => exact ⟨b.length, 0, none, 0, Nat.le_refl _, by omega, by go_num, rfl, own_nil _ _ _, Below.refl _ _⟩
  case round =>
    obtain ⟨t, m, A2, c2, ht, hmt, rfl, rfl, hown, hbk⟩ := hrel
    cases t with
    | zero =>
      have hC := rreduce_row A2 m c2 _ wr (Lies.own hown) (by omega) (fun j hj => HO.out j (by omega))
      clear hown
      go_wp2_with fail
      refine hC.mono ?_
      rintro e w4 ⟨A4, n4, c4, L, rfl, h4, b4⟩
      go_wp2_with fail
      go_ret
      exact ⟨A4, n4, c4, L, rfl, h4, hbk.trans (b4.mono hbk.size)⟩
    | succ i =>
      have hti : ((i + 1 : Nat) : Int) - 1 = (i : Int) := by omega
      have H0 := Lib.hid hown
      clear hown
      rw [hti]
      go_wp2
      go_loopw [5, 3] (fun k v wr => ∃ (q m : Nat) (A' : Option Addr) (c' : Nat), q ≤ 8 ∧ m + 8 * i + q = 8 * b.length ∧ k = .int .i64 ((q : Int) - 1) ∧ v = .slice A' m c' ∧
          wr.ownsRow w.heap.size 5 1 (.slice A' m c') m ((bits8 (ofB b) m).map bv) ∧ Below w.heap.size w wr) (fun k _ _ => (intOf k + 1).toNat)
      case atStart => exact ⟨8, m, A2, c2, Nat.le_refl _, by omega, rfl, rfl, H0.out, hbk⟩
      case round =>
        obtain ⟨q, m2, A3, c3, hq, hmq, rfl, rfl, hown, hbq⟩ := hrel
        cases q with
        | zero =>
          have H3 := Lib.hid hown
          clear hown
          go_wp2
          go_roundw
          case rel => exact ⟨i, m2, A3, c3, by omega, by omega, by go_num, rfl, H3.out, hbq⟩
          case measure => simp [intOf]
        | succ q =>
          obtain ⟨ad, x, rfl, hbl, hx, hcx⟩ := (h.below hbq).byte (k := i) (by omega)
          obtain ⟨y, hy1, hy2⟩ := shr_odd x q
          have hqi : ((q + 1 : Nat) : Int) - 1 = (q : Int) := by omega
          have HY : Hid (((x.toNat : Int) / 2 ^ q).tmod 2 = ((b8 (ofB b m2)).toNat : Int)) := by
            rw [Hid, ofB_at hx.out (k := q) (by omega) (by omega), ← hy2, b8_odd, hy1, Int.tmod_eq_emod_of_nonneg (by omega)]
          have HS := Lib.hid (HSn.out m2)
          have hsz := Lib.hid hbq.size
          clear hy1 hy2
          rw [hqi]
          go_wp2_with (at_builtin; refine wpList_append_lies _ rfl (.tmp 17) (.tmp 26) 24 rfl w.heap.size 5 _ 1 Try.underlying24 u8info rfl _ _ _ rfl (hown.alloc _) _ _ 1 1 _ rfl rfl (Lies.new1 _ _ _) (by intro u hu; rw [List.mem_singleton.1 hu]; rfl) (by omega) (by unfold maxLen; omega) (by simp; have := hsz.out; omega) ?_; intro A4 c4 w4 hown4 hgrow4 _)
          have hbel4 := below_own (hbq.alloc hbq.size _) (hown.alloc _) hgrow4 (Nat.le_refl _) (by simp; have := hbq.size; omega)
          have H5 : Hid (w4.ownsRow w.heap.size 5 1 (.slice A4 (m2 + 1) c4) (m2 + 1) ((bits8 (ofB b) (m2 + 1)).map bv)) := by
            rw [Hid, HS.out, List.map_append, List.map_singleton, bv, ← HY.out]
            exact hown4
          clear hown hown4 hgrow4
          go_wp2
          go_roundw
          case rel => exact ⟨q, m2 + 1, A4, c4, by omega, by omega, by go_num, rfl, H5.out, hbel4⟩
          case measure => simp [intOf]

/-! ### the generator -/
def setP (ps : List Nat) : Nat → Bool := ps.foldl (fun f p => upd f p true) fun _ => false
theorem setP_take {ps : List Nat} {k p : Nat} (h : ps[k]? = some p) : setP (ps.take (k + 1)) = upd (setP (ps.take k)) p true := by
  rw [take_some h]
  simp [setP]
theorem rpowers_any (A : Option Addr) (c : Nat) (ps : List Nat) (w : World) (h : Lies w w.heap.size A (ps.map iv)) (hn : ps.length ≤ 1000) (hlow : ∀ (j x : Nat), ps[j]? = some x → x < 33) :
    Calls Try.prog 39 #[.slice A ps.length c] w fun e w' => ∃ A' n' c' L, e = .returned (.slice A' n' c') ∧
      Holds w' (fun i => decide (i < 33) && setP ps i) A' n' c' L ∧ Below w.heap.size w w' := by
  have HB := Lib.hid hlow
  clear hlow
  have H0 : Hid (setP (ps.take 0) = fun _ => false) := rfl
  have HT : Hid (∀ (k p : Nat), ps[k]? = some p → setP (ps.take (k + 1)) = upd (setP (ps.take k)) p true) := fun k p h => setP_take h
  go_enter Try.func39, Try.ntmps39
  go_wp2_with (at_make; refine wpList_make_zeros _ rfl (.const (.int .i64 33)) (.const (.int .i64 33)) 24 rfl Try.underlying24 _ 33 rfl rfl rfl (by omega) ?_; intro w1 hrow hb1)
  rw [← H0.out] at hrow
  go_loopw [4] (fun i wr => ∃ k : Nat, k ≤ ps.length ∧ i = .int .i64 k ∧ Row wr w.heap.size (bits8 (setP (ps.take k)) 33) ∧ Below w.heap.size w wr) (fun i _ => ps.length - (intOf i).toNat)
  case atStart => exact ⟨0, Nat.zero_le _, rfl, hrow, hb1⟩
  case round =>
    obtain ⟨k, hk, rfl, hrk, hbk⟩ := hrel
    clear hrow
    by_cases hlt : k < ps.length
    · obtain ⟨ad, x, rfl, hbl, hx, hcx⟩ := (h.below hbk).int hlt
      have hx33 := HB.out k x hx.out
      have hT := HT.out k x hx.out
      have hc2 := hrk.byte (bits8_at (setP (ps.take k)) hx33)
      have hf2 := Whole.frozen hrk x
      have HS := Lib.hid (hrk.store x (b8 true))
      rw [bits8_set, ← hT] at HS
      have HB5 := Lib.hid (hbk.setCell (p := ⟨w.heap.size, x, none⟩) (Nat.le_refl _) (.int .u8 ((b8 true).toNat : Int)))
      have hx3 : (x : Int) < 33 := by omega
      clear hrk hT
      generalize setP (ps.take k) = F at *
      go_wp2_with fail
      go_roundw
      case rel => exact ⟨k + 1, by omega, by go_num, HS.out, HB5.out⟩
      case measure => simp [intOf]; omega
    · have HE : Hid (bits8 (setP (ps.take k)) 33 = bits8 (fun i => decide (i < 33) && setP ps i) 33) := by
        rw [Hid, List.take_of_length_le (by omega)]
        exact bits8_congr fun i hi => by simp [hi]
      have hl := hrk.lies hrk.lt
      rw [HE.out] at hl
      have hC := rreduce_row (some ⟨w.heap.size, 0, none⟩) 33 33 _ wr hl (by omega) (fun i hi => by rw [decide_eq_false (by omega)]; rfl)
      clear hrk hl HE
      go_wp2_with fail
      refine hC.mono ?_
      rintro e w4 ⟨A4, n4, c4, L, rfl, h4, b4⟩
      go_wp2_with fail
      go_ret
      exact ⟨A4, n4, c4, L, rfl, h4, hbk.trans (b4.mono hbk.size)⟩
theorem gen_same (i : Nat) : (decide (i < 33) && setP genP i) = co genL i := by
  have h : ∀ j : Fin 33, setP genP j.val = co genL j.val := by decide
  by_cases hi : i < 33
  · rw [← h ⟨i, hi⟩]; simp [hi]
  · rw [co_out (by show (bits8 _ 33).length ≤ i; rw [bits8_len]; omega)]; simp [hi]
theorem gen_can : Can (co genL) genL :=
  ⟨fun i hi => by rw [show co genL i = _ from (co_bits8 _ 33 i)]; rw [show genL.length = 33 from bits8_len _ _] at hi; rw [decide_eq_true hi]; exact bits8_at _ hi,
   fun i hi => co_out hi, fun n hn => by rw [show genL.length = 33 from bits8_len _ _] at hn; obtain rfl : n = 32 := by omega
                                         decide⟩
theorem rgenerator_any (w : World) : Calls Try.prog 25 #[] w fun e w' => ∃ A' n' c' L, e = .returned (.slice A' n' c') ∧
      Holds w' (co genL) A' n' c' L ∧ Below w.heap.size w w' := by
  have hb2 : Below w.heap.size w (wal w 3 (genP.map iv)) := below_wal _ _ _
  have hl : Lies (wal w 3 (genP.map iv)) (wal w 3 (genP.map iv)).heap.size (some ⟨w.heap.size, 0, none⟩) (genP.map iv) := (Lies.newN w _ _).more (by simp [wal])
  have hC := rpowers_any (some ⟨w.heap.size, 0, none⟩) 18 genP (wal w 3 (genP.map iv)) hl (by simp [genP]) (fun j x h => by
    have := List.mem_of_getElem? h
    simp [genP] at this
    omega)
  have HG : Hid (∀ i, (decide (i < 33) && setP genP i) = co genL i) := gen_same
  go_enter Try.func25, Try.ntmps25
  go_wp2_with fail
  refine hC.mono ?_
  rintro e w4 ⟨A4, n4, c4, L, rfl, h4, b4⟩
  go_wp2_with fail
  go_ret
  exact ⟨A4, n4, c4, L, rfl, ⟨h4.len, h4.cap, h4.can.congr HG.out, h4.lies⟩, hb2.trans (b4.mono hb2.size)⟩
end Go.Proofs.Ytgjedidpimncaaa
