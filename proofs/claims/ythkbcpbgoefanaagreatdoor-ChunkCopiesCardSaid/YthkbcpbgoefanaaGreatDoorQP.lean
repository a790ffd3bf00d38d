/- Layer 3, package pad and its reference: Gap, Up, Zero, Next, for whatever numbers and bytes. They write nothing that was there. -/
/- Layer 3, package pad: Next, for whatever bytes and numbers. They write nothing that was there. -/
/- Layer 3, package pad and its reference: Bytes, for whatever bytes: what is handed back is a new row. -/
/- Layer 3, package pad: Sizes, for whatever numbers that are small enough to be summed. -/
import Derived.Test.YthkbcpbgoefanaaGreatDoorChecked
import Derived.Test.YthkbcpbgoefanaaGreatDoorQA
import Derived.Laws.CopyOwn


namespace Go.Proofs.YthkbcpbgoefanaaGreatDoor
open Go.RowKit

/-! ### the numbers -/
def gap (n : Nat) : Nat := (4 - n % 4) % 4
def up (n : Nat) : Nat := n + gap n
theorem gap_lt (n : Nat) : gap n < 4 := Nat.mod_lt _ (by omega)
theorem up_mod (n : Nat) : up n % 4 = 0 := by unfold up gap; omega
theorem neg_and3 (n : Nat) (hn : n < 4611686018427387904) : bits BinOp.and IntKind.i64 (-(n : Int)) 3 = ((gap n : Nat) : Int) := by
  show IntKind.i64.wrap ((BitVec.ofInt 64 (-(n : Int)) &&& BitVec.ofInt 64 3).toNat : Int) = _
  have e3 : (BitVec.ofInt 64 3).toNat = 2 ^ 2 - 1 := by decide
  rw [BitVec.toNat_and, e3, Nat.and_two_pow_sub_one_eq_mod, BitVec.toNat_ofInt, IntKind.wrap_i64]
  unfold gap
  omega

theorem gap_any (n : Nat) (hn : n < 4611686018427387904) (w : World) : Calls Tryz.prog 172 #[.int .i64 (n : Int)] w fun e w' => e = .returned (.int .i64 (gap n : Nat)) ∧ w = w' := by
  have H := Lib.hid (neg_and3 n hn)
  go_enter Tryz.func172, Tryz.ntmps172
  go_wp2
  go_ret
  exact ⟨ret_int (by rw [← H.out]), rfl⟩
theorem up_any (n : Nat) (hn : n < 4611686018427387904) (w : World) : Calls Tryz.prog 163 #[.int .i64 (n : Int)] w fun e w' => e = .returned (.int .i64 (up n : Nat)) ∧ w = w' := by
  have hg := gap_lt n
  have H : Hid (up n = n + gap n) := rfl
  generalize up n = u at *
  go_enter Tryz.func163, Tryz.ntmps163
  go_wp2_with (go_at_call 172; refine (gap_any n hn _).mono ?_; rintro e w' ⟨rfl, rfl⟩)
  go_ret
  exact ⟨ret_int (by rw [H.out]; go_num), rfl⟩
/-! ### Zero -/
def zeroB (l : List UInt8) : Bool := l.all (· == 0)
theorem zeroB_take {l : List UInt8} {k : Nat} {x : UInt8} (h : l[k]? = some x) (h0 : zeroB (l.take k) = true) (hx : x = 0) : zeroB (l.take (k + 1)) = true := by
  rw [take_some h]
  unfold zeroB at h0 ⊢
  rw [List.all_append, h0, hx]
  rfl
theorem zeroB_no {l : List UInt8} {k : Nat} {x : UInt8} (h : l[k]? = some x) (hx : x ≠ 0) : zeroB l = false := by
  unfold zeroB
  rw [List.all_eq_false]
  exact ⟨x, List.mem_of_getElem? h, by simpa using hx⟩
theorem zero_any (A : Option Addr) (c B : Nat) (l : List UInt8) (w : World) (h : Lies w B A (l.map bv)) (hn : l.length ≤ maxLen) :
    Calls Tryz.prog 179 #[.slice A l.length c] w fun e w' => e = .returned (.bool (zeroB l)) ∧ w = w' := by
  unfold maxLen at hn
  go_enter Tryz.func179, Tryz.ntmps179
  go_wp2
  go_loop [7] (fun i => ∃ k : Nat, k ≤ l.length ∧ i = .int .i64 k ∧ Hid (zeroB (l.take k) = true)) (fun i => l.length - (intOf i).toNat)
  case atStart => exact ⟨0, Nat.zero_le _, rfl, rfl⟩
  case round =>
    obtain ⟨k, hk, rfl, hz⟩ := hrel
    by_cases hlt : k < l.length
    · obtain ⟨ad, x, rfl, hb, hx, hc⟩ := h.byte hlt
      by_cases h0 : x = 0
      · have HT := Lib.hid (zeroB_take hx.out hz.out h0)
        have hne : ((x.toNat : Int) != 0) = false := by rw [h0]; rfl
        clear h0
        go_wp2
        go_round
        case rel => exact ⟨k + 1, by omega, by go_num, HT⟩
        case measure => simp [intOf]; omega
      · have HN := Lib.hid (zeroB_no hx.out h0)
        have hne : ((x.toNat : Int) != 0) = true := by
          rw [bne_iff_ne]
          intro h
          exact h0 (UInt8.toNat_inj.1 (by simpa using h))
        clear h0
        go_wp2
        go_ret
        exact ⟨ret_bool (by rw [HN.out]), rfl⟩
    · have HE : Hid (zeroB l = true) := by
        have := hz.out
        rw [List.take_of_length_le (by omega)] at this
        exact this
      go_wp2
      go_ret
      exact ⟨ret_bool (by rw [HE.out]), rfl⟩
end Go.Proofs.YthkbcpbgoefanaaGreatDoor



namespace Go.Proofs.YthkbcpbgoefanaaGreatDoor
open Go.RowKit

def Good (b : List UInt8) (n : Int) : Prop := 0 ≤ n ∧ up n.toNat ≤ b.length ∧ zeroB ((b.drop n.toNat).take (gap n.toNat)) = true
instance (b : List UInt8) (n : Int) : Decidable (Good b n) := by unfold Good; infer_instance
def nextN (b : List UInt8) (n : Int) : Nat := if Good b n then up n.toNat else 0
def nextB (b : List UInt8) (n : Int) : Bool := decide (Good b n)
theorem next_no {b : List UInt8} {n : Int} (h : ¬ Good b n) : nextN b n = 0 ∧ nextB b n = false := by simp [nextN, nextB, h]
theorem next_yes {b : List UInt8} {n : Int} (h : Good b n) : nextN b n = up n.toNat ∧ nextB b n = true := by simp [nextN, nextB, h]

/-- the padding's bytes, as a slice of the bytes -/
theorem lies_pad {w : World} {B : Nat} {A : Option Addr} {c n u : Nat} {b : List UInt8} (h : Lies w B A (b.map bv)) (hu : u = n + gap n) (hb : u ≤ b.length) (hc : b.length ≤ c) :
    Lies w B (if c = n then A else A.map (·.add n)) (((b.drop n).take (gap n)).map bv) ∧ ((b.drop n).take (gap n)).length = u - n := by
  have h1 := (h.drop (k := n) (c := c) (by simpa using hc)).take (gap n)
  rw [← List.map_drop, ← List.map_take] at h1
  exact ⟨h1, by rw [List.length_take, List.length_drop]; omega⟩

theorem next_any (A : Option Addr) (c : Nat) (b : List UInt8) (n : Int) (w : World) (h : Lies w w.heap.size A (b.map bv)) (hbc : b.length ≤ c) (hn : b.length ≤ 10000000) :
    Calls Tryz.prog 178 #[.slice A b.length c, .int .i64 n] w fun e w' => e = .returned (.tuple #[.int .i64 (nextN b n : Nat), .bool (nextB b n)]) ∧ w = w' := by
  by_cases h0 : n < 0
  · obtain ⟨e1, e2⟩ := next_no (b := b) (n := n) (fun hg => by have := hg.1; omega)
    rw [e1, e2]
    go_enter Tryz.func178, Tryz.ntmps178
    go_wp2_with fail
    go_ret2
    exact ⟨rfl, rfl⟩
  obtain ⟨m, rfl⟩ := Int.eq_ofNat_of_zero_le (show 0 ≤ n by omega)
  by_cases h1 : (b.length : Int) < (m : Int)
  · obtain ⟨e1, e2⟩ := next_no (b := b) (n := m) (fun hg => by have := hg.2.1; unfold up at this; simp at this; omega)
    rw [e1, e2]
    go_enter Tryz.func178, Tryz.ntmps178
    go_wp2_with fail
    go_ret2
    exact ⟨rfl, rfl⟩
  have hup : up m = m + gap m := rfl
  have hg4 := gap_lt m
  have hU := up_any m (by omega)
  have hgd : Good b m ↔ up m ≤ b.length ∧ zeroB ((b.drop m).take (gap m)) = true := ⟨fun hg => by simpa using hg.2, fun hg => ⟨by omega, by simpa using hg⟩⟩
  obtain ⟨u, hu⟩ : ∃ u, u = up m := ⟨_, rfl⟩
  have hmu : m ≤ u := by omega
  have hu4 : u < m + 4 := by omega
  by_cases h2 : (b.length : Int) < (u : Int)
  · obtain ⟨e1, e2⟩ := next_no (b := b) (n := m) (fun hg => by have := (hgd.1 hg).1; omega)
    rw [e1, e2]
    rw [← hu] at hU
    clear hgd hu hup hg4
    go_enter Tryz.func178, Tryz.ntmps178
    go_wp2_with (go_at_call 163; refine (hU _).mono ?_; rintro e w' ⟨rfl, rfl⟩)
    go_ret2
    exact ⟨rfl, rfl⟩
  obtain ⟨hl, hlen⟩ := lies_pad h (show u = m + gap m by omega) (by omega) hbc
  have hz : ∀ A' l' c', A' = (if c = m then A else A.map (·.add m)) → l' = u - m → Calls Tryz.prog 179 #[.slice A' l' c'] w fun e w' => e = .returned (.bool (zeroB ((b.drop m).take (gap m)))) ∧ w = w' := by
    rintro A' l' c' rfl rfl
    have hz := zero_any _ c' _ _ w hl (by rw [hlen]; unfold maxLen; omega)
    rw [hlen] at hz
    exact hz
  have h2' : (u : Int) ≤ (b.length : Int) := by omega
  have hcm : u ≠ m → ¬ c = m := by omega
  by_cases h3 : zeroB ((b.drop m).take (gap m)) = true
  · obtain ⟨e1, e2⟩ := next_yes (hgd.2 ⟨by omega, h3⟩)
    rw [e1, e2, Int.toNat_natCast, ← hu]
    rw [h3] at hz
    have HZ := Lib.hid hz
    rw [← hu] at hU
    clear hz hgd h3 hlen hl e1 e2 hg4 hu hup h2
    by_cases hc : c = m
    · go_enter Tryz.func178, Tryz.ntmps178
      go_wp2_with (first | (go_at_call 163; refine (hU _).mono ?_; rintro e w' ⟨rfl, rfl⟩) | (go_at_call 179; refine (HZ.out _ _ _ (by simp [hc]) (by omega)).mono ?_; rintro e w' ⟨rfl, rfl⟩))
      go_ret2
      exact ⟨rfl, rfl⟩
    · go_enter Tryz.func178, Tryz.ntmps178
      go_wp2_with (first | (go_at_call 163; refine (hU _).mono ?_; rintro e w' ⟨rfl, rfl⟩) | (go_at_call 179; refine (HZ.out _ _ _ (by simp [hc]) (by omega)).mono ?_; rintro e w' ⟨rfl, rfl⟩))
      go_ret2
      exact ⟨rfl, rfl⟩
  · obtain ⟨e1, e2⟩ := next_no (b := b) (n := m) (fun hg => h3 (hgd.1 hg).2)
    rw [e1, e2]
    rw [Bool.eq_false_iff.2 h3] at hz
    have HZ := Lib.hid hz
    rw [← hu] at hU
    clear hz hgd h3 hlen hl e1 e2 hg4 hu hup h2
    by_cases hc : c = m
    · go_enter Tryz.func178, Tryz.ntmps178
      go_wp2_with (first | (go_at_call 163; refine (hU _).mono ?_; rintro e w' ⟨rfl, rfl⟩) | (go_at_call 179; refine (HZ.out _ _ _ (by simp [hc]) (by omega)).mono ?_; rintro e w' ⟨rfl, rfl⟩))
      go_ret2
      exact ⟨rfl, rfl⟩
    · go_enter Tryz.func178, Tryz.ntmps178
      go_wp2_with (first | (go_at_call 163; refine (hU _).mono ?_; rintro e w' ⟨rfl, rfl⟩) | (go_at_call 179; refine (HZ.out _ _ _ (by simp [hc]) (by omega)).mono ?_; rintro e w' ⟨rfl, rfl⟩))
      go_ret2
      exact ⟨rfl, rfl⟩
end Go.Proofs.YthkbcpbgoefanaaGreatDoor




namespace Go.Proofs.YthkbcpbgoefanaaGreatDoor
open Go.RowKit

/-- a row that fills its block -/
theorem own_whole {w : World} {base e g n : Nat} {xs : List Value} (h : w.ownsRow base e 1 (.slice (some ⟨g, 0, none⟩) n n) n xs) : Whole w g e xs.toArray ∧ base ≤ g := by
  rcases h.2 with ⟨h1, _⟩ | ⟨g', cap, cur, h1, h2, h3, _, _, h6, h7⟩
  · simp at h1
  · simp only [Value.slice.injEq, Option.some.injEq, Addr.mk.injEq, and_true, true_and] at h1
    obtain ⟨rfl, rfl⟩ := h1
    rw [List.take_of_length_le (by simp; omega)] at h7
    subst h7
    exact ⟨h3, h2⟩
theorem whole_own {w : World} {base e g n : Nat} {xs : List Value} (h : Whole w g e xs.toArray) (hb : base ≤ g) (hn : xs.length = n) (hm : n ≤ maxLen) : w.ownsRow base e 1 (.slice (some ⟨g, 0, none⟩) n n) n xs :=
  ⟨by omega, .inr ⟨g, n, xs.toArray, rfl, hb, h, Nat.le_refl _, hm, by simp; omega, by rw [List.take_of_length_le (by simp; omega)]⟩⟩

def padB (b : List UInt8) : List UInt8 := b ++ List.replicate (gap b.length) 0
theorem padB_len (b : List UInt8) : (padB b).length = up b.length := by simp [padB, up]

theorem splice_pad (b : List UInt8) : splice (List.replicate (up b.length) (Value.int .u8 0)) 0 (b.map bv) = (padB b).map bv := by
  simp only [splice, padB, List.take_zero, List.nil_append, List.map_append, List.length_map, Nat.zero_add, List.drop_replicate, List.map_replicate]
  congr 2
  unfold up
  omega

theorem bytes_any (A : Option Addr) (c : Nat) (b : List UInt8) (w : World) (h : Lies w w.heap.size A (b.map bv)) (hn : b.length ≤ 10000000) :
    Calls Tryz.prog 156 #[.slice A b.length c] w fun e w' => ∃ A' c', e = .returned (.slice A' (up b.length) c') ∧
      w'.ownsRow w.heap.size 5 1 (.slice A' (up b.length) c') (up b.length) ((padB b).map bv) ∧ Below w.heap.size w w' := by
  obtain ⟨i0, hi, hz0, hz1, hz2⟩ := info_parts u8info
  have hg := gap_lt b.length
  have hu : up b.length = b.length + gap b.length := rfl
  have hU := up_any b.length (by omega)
  have HS := Lib.hid (splice_pad b)
  have HL := Lib.hid (padB_len b)
  have ho1 := one_bytes b
  have hlen : (b.map bv).length = b.length := by simp
  generalize up b.length = u at *
  generalize b.map bv = cs at *
  have hbu : b.length ≤ u := by omega
  have hu2 : u ≤ 10000003 := by omega
  have hbu' : cs.length = Nat.min b.length u := by rw [hlen]; exact (Nat.min_eq_left hbu).symm
  have hfit : 0 + cs.length ≤ (List.replicate u (Value.int .u8 0)).length := by rw [hlen]; simp; omega
  obtain ⟨zs, hzs⟩ : ∃ zs, zs = List.replicate u (Value.int .u8 0) := ⟨_, rfl⟩
  rw [← hzs] at hfit HS
  have HZ := Lib.hid hzs
  clear hu hg hlen hzs
  have HB := Lib.hid hbu'
  have HF := Lib.hid hfit
  clear hbu' hfit
  go_enter Tryz.func156, Tryz.ntmps156
  go_wp2_with (first
    | (go_at_call 163; refine (hU _).mono ?_; rintro e w' ⟨rfl, rfl⟩)
    | (at_make; refine wpList_make_full _ rfl (.tmp 6) (.tmp 6) 22 rfl w.heap.size 5 i0 _ 1 Tryz.underlying22 hi hz0 hz1 .i64 .i64 _ _ u rfl rfl rfl rfl (by rw [hz2]; omega) (by unfold maxLen; omega) (Nat.le_refl _) ?_; intro w1 hown hgrow; have hb1 : Below w.heap.size w w1 := (Below.refl _ w).grown hgrow (Nat.le_refl _) (by simp); have hl1 := h.below hb1; have hW : w1.heap[w.heap.size]? = some (.cells zs.toArray 5 (0, 0)) := by (have := (own_whole hown).1; rw [HZ.out]; simpa [Whole, toList_madeCells_one, Value.cells] using this))
    | ((with_reducible show wpList _ _ _ (⟨some 10, _, _, _, _, _⟩ :: _) _ _); refine wpList_copy_splice rfl (.tmp 8) (.tmp 9) 22 22 rfl 5 Tryz.underlying22 (by kernel_rfl) _ _ u u _ _ rfl rfl w.heap.size 0 zs 5 hW cs HB.out (fun hp => ⟨rfl, by obtain ⟨ad, e, _, hc⟩ := hl1 (fun e => by rw [e] at hp; simp at hp); exact ⟨ad, e, hc⟩⟩) HF.out ho1 w.heap.size w hb1 (Nat.le_refl _) ?_; intro w2 HG2 hB2))
  go_ret
  refine ⟨_, _, rfl, whole_own ?_ (Nat.le_refl _) (by simpa using HL.out) (by unfold maxLen; omega), hB2⟩
  rw [← HS.out]
  exact HG2.out

theorem rbytes_any (A : Option Addr) (c : Nat) (b : List UInt8) (w : World) (h : Lies w w.heap.size A (b.map bv)) (hn : b.length ≤ 10000000) :
    Calls Tryz.prog 117 #[.slice A b.length c] w fun e w' => ∃ A' c', e = .returned (.slice A' (up b.length) c') ∧
      w'.ownsRow w.heap.size 5 1 (.slice A' (up b.length) c') (up b.length) ((padB b).map bv) ∧ Below w.heap.size w w' := by
  have hg := gap_lt b.length
  go_enter Tryz.func117, Tryz.ntmps117
  go_wp2_with (at_builtin; refine wpList_append_lies _ rfl (.tmp 4) (.tmp 5) 22 rfl w.heap.size 5 _ 1 Tryz.underlying22 u8info rfl _ _ _ rfl (own_empty w w.heap.size (Nat.le_refl _)) _ A b.length c _ rfl (by simp) (h.alloc (Nat.le_refl _) _) (one_bytes b) (by omega) (by unfold maxLen; omega) (by simp) ?_; intro A1 c1 w1 hown hgrow _)
  have hb1 : Below w.heap.size w w1 := ((Below.refl _ w).alloc (Nat.le_refl _) _).grown hgrow (by simp) (fun j e => by cases e; exact Nat.le_refl _)
  have hown1 : w1.ownsRow w.heap.size 5 1 (.slice A1 (b.length + 0) c1) (b.length + 0) ((b ++ List.replicate 0 0).map bv) := by simpa using hown
  have H1 := Lib.hid hown1
  clear hown1 hown hgrow
  go_loopw [3] (fun v wr => ∃ (k : Nat) (A' : Option Addr) (c' : Nat), k ≤ gap b.length ∧ v = .slice A' (b.length + k) c' ∧
      wr.ownsRow w.heap.size 5 1 (.slice A' (b.length + k) c') (b.length + k) ((b ++ List.replicate k 0).map bv) ∧ Below w.heap.size w wr)
    (fun v _ => match v with | .slice _ n _ => b.length + gap b.length - n | _ => 0)
  case atStart => exact ⟨0, A1, c1, Nat.zero_le _, by simp, H1.out, hb1⟩
  case round =>
    obtain ⟨k, A2, c2, hk, rfl, hown2, hb2⟩ := hrel
    by_cases hlt : k < gap b.length
    · have ht : (((b.length + k : Nat) : Int) % 4 != 0) = true := by
        rw [bne_iff_ne]
        unfold gap at hlt
        omega
      have hsz := Lib.hid hb2.size
      go_wp2_with (at_builtin; refine wpList_append_lies _ rfl (.tmp 11) (.tmp 12) 22 rfl w.heap.size 5 _ 1 Tryz.underlying22 u8info rfl _ _ _ rfl (hown2.alloc _) _ _ 1 1 _ rfl rfl (Lies.new1 _ _ _) (by intro u hu; rw [List.mem_singleton.1 hu]; rfl) (by omega) (by unfold maxLen; omega) (by simp; have := hsz.out; omega) ?_; intro A4 c4 w4 hown4 hgrow4 _)
      have hbel4 := below_own (hb2.alloc hb2.size _) (hown2.alloc _) hgrow4 (Nat.le_refl _) (by simp; have := hb2.size; omega)
      have hown5 : w4.ownsRow w.heap.size 5 1 (.slice A4 (b.length + (k + 1)) c4) (b.length + (k + 1)) ((b ++ List.replicate (k + 1) 0).map bv) := by
        rw [List.replicate_succ', ← List.append_assoc, List.map_append]
        exact hown4
      have H5 := Lib.hid hown5
      clear hown5 hown4 hown2 hgrow4
      go_wp2
      go_roundw
      case rel => exact ⟨k + 1, A4, c4, by omega, rfl, H5.out, hbel4⟩
      case measure => simp; omega
    · have hkg : k = gap b.length := by omega
      have ht : (((b.length + k : Nat) : Int) % 4 != 0) = false := by
        rw [bne_eq_false_iff_eq]
        unfold gap at hkg
        omega
      have HK := Lib.hid hkg
      have H2 := Lib.hid hown2
      clear hkg hlt hown2
      go_wp2
      go_ret
      have e := HK.out
      subst e
      exact ⟨A2, c2, rfl, H2.out, hb2⟩
end Go.Proofs.YthkbcpbgoefanaaGreatDoor



namespace Go.Proofs.YthkbcpbgoefanaaGreatDoor
open Go.RowKit

abbrev iv (n : Nat) : Value := .int .i64 (n : Int)
theorem Lies.int {w : World} {B : Nat} {A : Option Addr} {l : List Nat} (h : Lies w B A (l.map iv)) {k : Nat} (hk : k < l.length) :
    ∃ ad x, A = some ad ∧ ad.block < B ∧ Hid (l[k]? = some x) ∧ w.cell? (ad.add k) = some (.int .i64 (x : Int)) := h.of_map hk

/-! ### the sums -/
def sizes (l : List Nat) : Nat := l.foldl (fun s n => up s + n) 0
theorem sizes_snoc (l : List Nat) (x : Nat) : sizes (l ++ [x]) = up (sizes l) + x := by simp [sizes]
theorem sizes_take {l : List Nat} {k x : Nat} (h : l[k]? = some x) : sizes (l.take (k + 1)) = up (sizes (l.take k)) + x := by rw [take_some h, sizes_snoc]
def Low (l : List Nat) : Prop := ∀ (i : Nat) (x : Nat), l[i]? = some x → x ≤ 1000000
theorem sizes_le {l : List Nat} (h : Low l) : ∀ k, k ≤ l.length → sizes (l.take k) ≤ 1000003 * k := by
  intro k
  induction k with
  | zero => intro _; simp [sizes]
  | succ k ih =>
    intro hk
    have h1 := ih (by omega)
    have hx : l[k]? = some l[k] := List.getElem?_eq_getElem (by omega)
    have h2 := h k _ hx
    have h3 := gap_lt (sizes (l.take k))
    rw [sizes_take hx]
    unfold up
    omega
/-! ### the closure, then Sizes -/
theorem sizes1_any (g s n : Nat) (w : World) (hc : w.cell? ⟨g, 0, none⟩ = some (.int .i64 (s : Int))) (hf : w.frozen? ⟨g, 0, none⟩ = false) (hs : s ≤ 2000000000) (hn : n ≤ 1000000000) :
    Calls Tryz.prog 162 #[.int .i64 (n : Int), .pointer (some ⟨g, 0, none⟩)] w fun e w' => e = .returned (.tuple #[]) ∧ w' = w.setCell ⟨g, 0, none⟩ (.int .i64 ((up s + n : Nat) : Int)) := by
  have hU := up_any s (by omega)
  have hg := gap_lt s
  have hu : up s = s + gap s := rfl
  generalize up s = u at *
  have hu2 : u ≤ 2000000003 := by omega
  clear hu hg
  go_enter Tryz.func162, Tryz.ntmps162
  go_wp2_with (go_at_call 163; refine (hU _).mono ?_; rintro e w' ⟨rfl, rfl⟩)
  go_end0
  exact ⟨rfl, rfl⟩

theorem sizes_any (A : Option Addr) (c : Nat) (l : List Nat) (w : World) (h : Lies w w.heap.size A (l.map iv)) (hn : l.length ≤ 1000) (hlow : Low l) :
    Calls Tryz.prog 141 #[.slice A l.length c] w fun e w' => e = .returned (.int .i64 (sizes l : Nat)) ∧ Below w.heap.size w w' := by
  have HL := Lib.hid hlow
  clear hlow
  go_enter Tryz.func141, Tryz.ntmps141
  go_wp2_with fail
  go_loopw [10] (fun i wr => ∃ k : Nat, k ≤ l.length ∧ i = .int .i64 k ∧ Whole wr w.heap.size 3 #[.int .i64 (sizes (l.take k) : Nat)] ∧ Below w.heap.size w wr) (fun i _ => l.length - (intOf i).toNat)
  case atStart =>
    exact ⟨0, Nat.zero_le _, rfl, by rw [List.take_zero]; exact Whole.new _ _ _, (Below.refl _ w).alloc (Nat.le_refl _) _⟩
  case round =>
    obtain ⟨k, hk, rfl, hwh, hbel⟩ := hrel
    have hcell := hwh.cell 0
    have hfr := hwh.frozen 0
    by_cases hlt : k < l.length
    · obtain ⟨ad, x, rfl, hb, hx, hc⟩ := (h.below hbel).int hlt
      have hx2 := HL.out k x hx.out
      have hs2 := sizes_le HL.out k hk
      have HT := Lib.hid (sizes_take hx.out)
      have HW := Lib.hid hwh
      clear hwh
      generalize sizes (l.take k) = s at *
      simp at hcell
      go_wp2_with fail
      refine (sizes1_any _ s x wr hcell hfr (by omega) (by omega)).mono ?_
      rintro e w2 ⟨rfl, h2⟩
      have HW2 : Hid (Whole w2 w.heap.size 3 #[.int .i64 ((sizes (l.take (k + 1)) : Nat) : Int)]) := by
        rw [HT.out, h2]
        exact HW.out.set_ 0 _
      have hb2 : Below w.heap.size w w2 := by rw [h2]; exact hbel.setCell (Nat.le_refl _) _
      clear h2
      go_wp2_with fail
      go_roundw
      case rel => exact ⟨k + 1, by omega, by go_num, HW2.out, hb2⟩
      case measure => simp [intOf]; omega
    · have HE : Hid (l.take k = l) := List.take_of_length_le (by omega)
      have HS : Hid (sizes (l.take k) = sizes l) := by unfold Hid; rw [HE.out]
      clear HE hwh
      simp at hcell
      generalize sizes (l.take k) = s at *
      go_wp2_with fail
      go_ret
      exact ⟨ret_int (by rw [HS.out]), hbel⟩

end Go.Proofs.YthkbcpbgoefanaaGreatDoor


