/- Layer 2: the decimal text of a number, whatever the table of powers holds: it hangs on the number and the table alone. No condition of its own. -/
import Derived.Test.YtemeeeiglifpaaaDoorSame
import Derived.Test.YtemeeeiglifpaaaDoorFaultShelf
import Derived.Lib.ItoaWalk
import Derived.Lib.ItoaMem
import Derived.Lib.ItoaNum
import Derived.RegionTactic
import Derived.BigCall
import Derived.BigGuard
import Derived.Lib.Walk
import Derived.CellFam








namespace Go.Proofs.YtemeeeiglifpaaaDoor
open Go.RowKit Go.Lib

/-! ### the table -/
def Tab (pw : Nat → Nat) (w : World) : Prop := ∀ i, i < 20 → w.cell? ⟨1, i, none⟩ = some (.int .u64 (pw i))
theorem Tab.lt {pw : Nat → Nat} {w : World} (h : Tab pw w) : 1 < w.heap.size := World.block_lt_of_cell? w _ (h 0 (by omega))
theorem Tab.below {pw : Nat → Nat} {B : Nat} {w w' : World} (h : Tab pw w) (hb : Below B w w') (hB : 1 < B) : Tab pw w' := fun i hi => (hb.cell (p := ⟨1, i, none⟩) hB).trans (h i hi)
theorem Tab.alloc {pw : Nat → Nat} {w : World} (h : Tab pw w) (o : Obj) : Tab pw (w.alloc o) := fun i hi => (World.cell?_alloc_lt w o ⟨1, i, none⟩ h.lt).trans (h i hi)
theorem Tab.drew {pw : Nat → Nat} {w : World} (h : Tab pw w) : Tab pw w.drew := h

/-! ### how many digits are written -/
def ndF (pw : Nat → Nat) (u : Nat) : Nat := if pw (Lib.l10 (Lib.bitLen u)) ≤ u then Lib.l10 (Lib.bitLen u) + 1 else Lib.l10 (Lib.bitLen u)
theorem ndF_le (pw : Nat → Nat) (u : Nat) (h1 : 1 ≤ u) (h2 : u < 18446744073709551616) : ndF pw u ≤ 20 ∧ u < 10 ^ (ndF pw u + 1) := by
  obtain ⟨hd, h19⟩ := Lib.numDigits_eq u h1 h2
  have hp := Lib.lt_pow_nDigits u
  have hq : Lib.nDigits u ≤ Lib.l10 (Lib.bitLen u) + 1 := by split at hd <;> omega
  unfold ndF
  split
  · exact ⟨by omega, Nat.lt_of_lt_of_le hp (Nat.pow_le_pow_right (by omega) (by omega))⟩
  · exact ⟨by omega, Nat.lt_of_lt_of_le hp (Nat.pow_le_pow_right (by omega) (by omega))⟩
theorem numDigits_any (pw : Nat → Nat) (u : Nat) (h1 : 1 ≤ u) (h2 : u < 18446744073709551616) (w : World) (hT : Tab pw w) :
    Calls Tryd.prog 62 #[.int .u64 u] w fun e w' => e = .returned (.int .i64 (ndF pw u)) ∧ w = w' := by
  have hL : Lib.bitLen u ≤ 64 := Lib.bitLen_le u 64 (Nat.le_refl _) h2
  obtain ⟨_, h19⟩ := Lib.numDigits_eq u h1 h2
  have hcell := hT (Lib.l10 (Lib.bitLen u)) (by omega)
  have hn : ndF pw u = if pw (Lib.l10 (Lib.bitLen u)) ≤ u then Lib.l10 (Lib.bitLen u) + 1 else Lib.l10 (Lib.bitLen u) := rfl
  generalize hq : Lib.l10 (Lib.bitLen u) = q at hcell hn h19
  have Q := Lib.hid hq
  have HN := Lib.hid hn
  have h20 : q < 20 := by omega
  clear hq hn hT
  have hto : ((u : Int)).toNat = u := by omega
  have TO := Lib.hid hto
  clear hto
  by_cases hge : pw q ≤ u
  · have hge' : ((pw q : Nat) : Int) ≤ (u : Int) := by omega
    have hf : ndF pw u = q + 1 := by rw [HN.out, if_pos hge]
    have HF := Lib.hid hf
    clear hf
    go_enter Tryd.func62, Tryd.ntmps62
    go_wp2_with fail
    refine (Tryd.bits_Len64 _ _ (by omega) (by omega)).mono ?_
    rintro e w' ⟨rfl, rfl⟩
    rw [TO.out]
    go_wp2_with fail
    refine (Tryd.internal_strconv_log10Pow2 _ hL _).mono ?_
    rintro e w' ⟨rfl, rfl⟩
    rw [Q.out]
    go_wp2_with fail
    refine (Tryd.internal_strconv_bool2_int _ _).mono ?_
    rintro e w' ⟨rfl, rfl⟩
    go_wp2_with fail
    go_ret
    exact ⟨by rw [HF.out]; simp, rfl⟩
  · have hge' : ¬ ((pw q : Nat) : Int) ≤ (u : Int) := by omega
    have hf : ndF pw u = q := by rw [HN.out, if_neg hge]
    have HF := Lib.hid hf
    clear hf
    go_enter Tryd.func62, Tryd.ntmps62
    go_wp2_with fail
    refine (Tryd.bits_Len64 _ _ (by omega) (by omega)).mono ?_
    rintro e w' ⟨rfl, rfl⟩
    rw [TO.out]
    go_wp2_with fail
    refine (Tryd.internal_strconv_log10Pow2 _ hL _).mono ?_
    rintro e w' ⟨rfl, rfl⟩
    rw [Q.out]
    go_wp2_with fail
    refine (Tryd.internal_strconv_bool2_int _ _).mono ?_
    rintro e w' ⟨rfl, rfl⟩
    go_wp2_with fail
    go_ret
    exact ⟨by rw [HF.out]; simp, rfl⟩
end Go.Proofs.YtemeeeiglifpaaaDoor

/- Layer 2: internal/strconv.formatBase10 for whatever number of places: the bytes that it writes hang on the number and the number of places alone. No condition of its own. -/



namespace Go.Proofs.YtemeeeiglifpaaaDoor
open Go.RowKit Go.Lib

def put2 (off : Nat) (l : List UInt8) (n v : Nat) : List UInt8 := (l.set (off + (n + 1)) (sm (v % 100 * 2 + 1))).set (off + n) (sm (v % 100 * 2))
/-- what stands in the row behind nd places -/
def fbF (off : Nat) : Nat → Nat → List UInt8 → List UInt8
  | 0, _, l => l
  | 1, v, l => l.set off (UInt8.ofNat (48 + v))
  | n + 2, v, l => fbF off n (v / 100) (put2 off l n v)
structure Inv (off : Nat) (R : List UInt8) (N nd v : Nat) (l : List UInt8) : Prop where
  len : off + N ≤ l.length
  le : nd ≤ N
  small : v < 10 ^ (nd + 1)
  fin : fbF off nd v l = R
theorem put2_len (off : Nat) (l : List UInt8) (n v : Nat) : (put2 off l n v).length = l.length := by simp [put2]
theorem Inv.step {off : Nat} {R : List UInt8} {N n v : Nat} {l : List UInt8} (h : Inv off R N (n + 2) v l) : Inv off R N n (v / 100) (put2 off l n v) := by
  refine ⟨by rw [put2_len]; exact h.len, by have := h.le; omega, ?_, h.fin⟩
  have := h.small
  rw [show n + 2 + 1 = (n + 1) + 2 by omega, Nat.pow_add] at this
  omega
theorem Inv.small8 {off : Nat} {R : List UInt8} {N nd v : Nat} {l : List UInt8} (h : Inv off R N nd v l) (h8 : nd < 8) : v < 100000000 := by
  have := h.small
  have : 10 ^ (nd + 1) ≤ 10 ^ 8 := Nat.pow_le_pow_right (by omega) (by omega)
  omega
abbrev rowA (l : List UInt8) : Array Value := (l.map bv).toArray
theorem rowA_set (l : List UInt8) (i : Nat) (x : UInt8) : (rowA l).setIfInBounds i (bv x) = rowA (l.set i x) := by
  unfold rowA
  simp [List.map_set]
theorem Whole.row {w : World} {b : Nat} {l : List UInt8} (h : Whole w b 98 (rowA l)) {i : Nat} (hi : i < l.length) : ∃ x : UInt8, w.cell? ⟨b, i, none⟩ = some (.int .u8 (x.toNat : Int)) := by
  refine ⟨l[i], ?_⟩
  rw [h.cell]
  simp [rowA, hi]
theorem Whole.put {w : World} {b : Nat} {l : List UInt8} (h : Whole w b 98 (rowA l)) (i : Nat) (x : UInt8) : Whole (w.setCell ⟨b, i, none⟩ (.int .u8 (x.toNat : Int))) b 98 (rowA (l.set i x)) := by
  have := h.set_ i (bv x)
  rwa [rowA_set] at this
theorem Whole.put2 {w : World} {b off : Nat} {l : List UInt8} (h : Whole w b 98 (rowA l)) (n v : Nat) :
    Whole (((w.setCell ⟨b, off + (n + 1), none⟩ (.int .u8 ((sm (v % 100 * 2 + 1)).toNat : Int))).setCell ⟨b, off + n, none⟩ (.int .u8 ((sm (v % 100 * 2)).toNat : Int))).drew) b 98 (rowA (put2 off l n v)) :=
  ((h.put (off + (n + 1)) _).put (off + n) _).drew
theorem below_put2 {w0 w : World} {b : Nat} (h : Below b w0 w) (i j : Nat) (x y : Value) : Below b w0 (((w.setCell ⟨b, i, none⟩ x).setCell ⟨b, j, none⟩ y).drew) :=
  ((h.setCell (Nat.le_refl _) x).setCell (Nat.le_refl _) y).drew
/-- the cells of the places, for a walk -/
theorem Whole.cells {w : World} {b off N : Nat} {l : List UInt8} (h : Whole w b 98 (rowA l)) (hl : off + N ≤ l.length) :
    ∃ G : Nat → Int, (∀ t, t < N → w.cell? ⟨b, off + t, none⟩ = some (.int .u8 (G t))) ∧ ∀ t, t < N → w.frozen? ⟨b, off + t, none⟩ = false := by
  refine ⟨fun t => ((l[off + t]?.getD 0).toNat : Int), fun t ht => ?_, fun t _ => h.frozen _⟩
  rw [h.cell]
  have : off + t < l.length := by omega
  simp [rowA, this]

theorem Whole.last {w : World} {b off : Nat} {l : List UInt8} (h : Whole w b 98 (rowA l)) (z : Int) (x : Nat) (hz : z = (((48 + x) % 256 : Nat) : Int)) :
    Whole (w.setCell ⟨b, off, none⟩ (.int .u8 z)) b 98 (rowA (l.set off (UInt8.ofNat (48 + x)))) := by
  have e := h.put off (UInt8.ofNat (48 + x))
  have ev : ((UInt8.ofNat (48 + x)).toNat : Int) = z := by rw [hz]; simp
  rwa [ev] at e

set_option maxHeartbeats 25600000 in
set_option maxRecDepth 100000 in
theorem format_any (b off cap N u : Nat) (l R : List UInt8) (w : World) (hw : Whole w b 98 (rowA l)) (hI : Inv off R N N u l) (hN : N ≤ 20) (hu64 : u < 18446744073709551616) :
    Calls Tryd.prog 63 #[.slice (some ⟨b, off, none⟩) N cap, .int .u64 u] w fun e w' =>
      e = .returned (.tuple #[]) ∧ Whole w' b 98 (rowA R) ∧ Below b w w' := by
  have HI := Lib.hid hI
  clear hI
  go_enter Tryd.func63, Tryd.ntmps63
  go_name_bytes SM hSM
  have eSM : SM = Lib.smalls := by rw [← hSM]; decide +kernel
  subst eSM
  clear hSM
  go_wp2
  go_loopw [1, 4] (fun vu vn wr => ∃ (nd v : Nat) (l : List UInt8), vu = .int .u64 v ∧ vn = .int .i64 nd ∧ Whole wr b 98 (rowA l) ∧ Below b w wr ∧ v < 18446744073709551616 ∧ Hid (Inv off R N nd v l)) (fun _ vn _ => (RowKit.intOf vn).toNat)
  case atStart => exact ⟨N, u, l, rfl, rfl, hw, Below.refl _ _, hu64, HI.out⟩
  case round =>
    clear hw HI
    obtain ⟨nd, v, l0, rfl, rfl, hw0, hb0, hv64, HI0⟩ := hrel
    have hle0 := HI0.out.le
    by_cases h8 : 8 ≤ nd
    · obtain ⟨m, rfl⟩ : ∃ m, nd = m + 8 := ⟨nd - 8, by omega⟩
      go_wp2
      have HI1 := Lib.hid (Inv.step (show Inv off R N (m + 6 + 2) (v) l0 from HI0.out))
      go_name_slot 9 x0 hx0
      have hxe0 : x0 = ((v % 100 * 2 : Nat) : Int) := by omega
      have hXa0 : ∀ w, (Instr.index 9 (.string Lib.smalls) (.int .u32 (x0 + 1))).run Tryd.prog w = .ok (.int .u8 ((sm (v % 100 * 2 + 1)).toNat : Int)) w := idx_smalls 9 Tryd.underlying9 .u32 _ _ (by omega) (by omega)
      have hXb0 : ∀ w, (Instr.index 9 (.string Lib.smalls) (.int .u32 x0)).run Tryd.prog w = .ok (.int .u8 ((sm (v % 100 * 2)).toNat : Int)) w := idx_smalls 9 Tryd.underlying9 .u32 _ _ (by omega) (by omega)
      have hlo0 : 0 ≤ x0 := by omega
      have hhi0 : x0 ≤ 198 := by omega
      clear hx0 hxe0
      obtain ⟨G0, hc0, hf0⟩ := hw0.cells HI0.out.len
      have AW0 := Lib.hid hw0
      have AB0 := Lib.hid hb0
      clear hw0 hb0
      go_region
      go_wp2
      go_name_world W1 hW1
      have hw1 : Whole W1 b 98 (rowA (put2 off l0 (m + 6) (v))) := by rw [← hW1]; exact AW0.out.put2 (m + 6) (v)
      have hb1 : Below b w W1 := by rw [← hW1]; exact below_put2 AB0.out _ _ _ _
      generalize put2 off l0 (m + 6) (v) = l1 at hw1 HI1
      clear hW1 hc0 hf0 AW0 AB0 HI0 hXa0 hXb0
      have HI2 := Lib.hid (Inv.step (show Inv off R N (m + 4 + 2) (v / 100) l1 from HI1.out))
      go_name_slot 8 x1 hx1
      have hxe1 : x1 = ((v / 100 % 100 * 2 : Nat) : Int) := by omega
      have hXa1 : ∀ w, (Instr.index 9 (.string Lib.smalls) (.int .u32 (x1 + 1))).run Tryd.prog w = .ok (.int .u8 ((sm (v / 100 % 100 * 2 + 1)).toNat : Int)) w := idx_smalls 9 Tryd.underlying9 .u32 _ _ (by omega) (by omega)
      have hXb1 : ∀ w, (Instr.index 9 (.string Lib.smalls) (.int .u32 x1)).run Tryd.prog w = .ok (.int .u8 ((sm (v / 100 % 100 * 2)).toNat : Int)) w := idx_smalls 9 Tryd.underlying9 .u32 _ _ (by omega) (by omega)
      have hlo1 : 0 ≤ x1 := by omega
      have hhi1 : x1 ≤ 198 := by omega
      clear hx1 hxe1
      obtain ⟨G1, hc1, hf1⟩ := hw1.cells HI1.out.len
      have AW1 := Lib.hid hw1
      have AB1 := Lib.hid hb1
      clear hw1 hb1
      go_region
      go_wp2
      go_name_world W2 hW2
      have hw2 : Whole W2 b 98 (rowA (put2 off l1 (m + 4) (v / 100))) := by rw [← hW2]; exact AW1.out.put2 (m + 4) (v / 100)
      have hb2 : Below b w W2 := by rw [← hW2]; exact below_put2 AB1.out _ _ _ _
      generalize put2 off l1 (m + 4) (v / 100) = l2 at hw2 HI2
      clear hW2 hc1 hf1 AW1 AB1 HI1 hXa1 hXb1
      have HI3 := Lib.hid (Inv.step (show Inv off R N (m + 2 + 2) (v / 100 / 100) l2 from HI2.out))
      go_name_slot 11 x2 hx2
      have hxe2 : x2 = ((v / 100 / 100 % 100 * 2 : Nat) : Int) := by omega
      have hXa2 : ∀ w, (Instr.index 9 (.string Lib.smalls) (.int .u32 (x2 + 1))).run Tryd.prog w = .ok (.int .u8 ((sm (v / 100 / 100 % 100 * 2 + 1)).toNat : Int)) w := idx_smalls 9 Tryd.underlying9 .u32 _ _ (by omega) (by omega)
      have hXb2 : ∀ w, (Instr.index 9 (.string Lib.smalls) (.int .u32 x2)).run Tryd.prog w = .ok (.int .u8 ((sm (v / 100 / 100 % 100 * 2)).toNat : Int)) w := idx_smalls 9 Tryd.underlying9 .u32 _ _ (by omega) (by omega)
      have hlo2 : 0 ≤ x2 := by omega
      have hhi2 : x2 ≤ 198 := by omega
      clear hx2 hxe2
      obtain ⟨G2, hc2, hf2⟩ := hw2.cells HI2.out.len
      have AW2 := Lib.hid hw2
      have AB2 := Lib.hid hb2
      clear hw2 hb2
      go_region
      go_wp2
      go_name_world W3 hW3
      have hw3 : Whole W3 b 98 (rowA (put2 off l2 (m + 2) (v / 100 / 100))) := by rw [← hW3]; exact AW2.out.put2 (m + 2) (v / 100 / 100)
      have hb3 : Below b w W3 := by rw [← hW3]; exact below_put2 AB2.out _ _ _ _
      generalize put2 off l2 (m + 2) (v / 100 / 100) = l3 at hw3 HI3
      clear hW3 hc2 hf2 AW2 AB2 HI2 hXa2 hXb2
      have HI4 := Lib.hid (Inv.step (show Inv off R N (m + 2) (v / 100 / 100 / 100) l3 from HI3.out))
      go_name_slot 10 x3 hx3
      have hxe3 : x3 = ((v / 100 / 100 / 100 % 100 * 2 : Nat) : Int) := by omega
      have hXa3 : ∀ w, (Instr.index 9 (.string Lib.smalls) (.int .u32 (x3 + 1))).run Tryd.prog w = .ok (.int .u8 ((sm (v / 100 / 100 / 100 % 100 * 2 + 1)).toNat : Int)) w := idx_smalls 9 Tryd.underlying9 .u32 _ _ (by omega) (by omega)
      have hXb3 : ∀ w, (Instr.index 9 (.string Lib.smalls) (.int .u32 x3)).run Tryd.prog w = .ok (.int .u8 ((sm (v / 100 / 100 / 100 % 100 * 2)).toNat : Int)) w := idx_smalls 9 Tryd.underlying9 .u32 _ _ (by omega) (by omega)
      have hlo3 : 0 ≤ x3 := by omega
      have hhi3 : x3 ≤ 198 := by omega
      clear hx3 hxe3
      obtain ⟨G3, hc3, hf3⟩ := hw3.cells HI3.out.len
      have AW3 := Lib.hid hw3
      have AB3 := Lib.hid hb3
      clear hw3 hb3
      go_region
      go_wp2
      go_roundw
      case rel =>
        have e : v / 100 / 100 / 100 / 100 = v / 100000000 := by omega
        exact ⟨m, v / 100000000, put2 off l3 m (v / 100 / 100 / 100), by first | go_num | (congr 1; omega), by first | go_num | (congr 1; omega), AW3.out.put2 m (v / 100 / 100 / 100), below_put2 AB3.out _ _ _ _, by omega, e ▸ HI4.out⟩
      case measure => simp [RowKit.intOf]; omega
    · have hv8 := HI0.out.small8 (by omega)
      have hc8 : nd = 0 ∨ nd = 1 ∨ nd = 2 ∨ nd = 3 ∨ nd = 4 ∨ nd = 5 ∨ nd = 6 ∨ nd = 7 := by omega
      rcases hc8 with rfl | rfl | rfl | rfl | rfl | rfl | rfl | rfl
      · -- 0 places left
        have hsm := HI0.out.small
        go_wp2
        go_end0
        have hfin : l0 = R := HI0.out.fin
        exact ⟨rfl, hfin ▸ hw0, hb0⟩
      · -- 1 places left
        have hsm := HI0.out.small
        have hl0 := HI0.out.len
        obtain ⟨G0, hc0, hf0⟩ := hw0.cells HI0.out.len
        have AW0 := Lib.hid hw0
        have AB0 := Lib.hid hb0
        clear hw0 hb0
        go_wp2
        go_end0
        have hfin : l0.set off (UInt8.ofNat (48 + v)) = R := HI0.out.fin
        rw [← hfin]
        exact ⟨rfl, AW0.out.last _ v (by omega), AB0.out.setCell (Nat.le_refl _) _⟩
      · -- 2 places left
        have hsm := HI0.out.small
        go_wp2
        have HI1 := Lib.hid (Inv.step (show Inv off R N (0 + 2) (v) l0 from HI0.out))
        go_name_slot 16 x0 hx0
        have hxe0 : x0 = ((v % 100 * 2 : Nat) : Int) := by omega
        have hXa0 : ∀ w, (Instr.index 9 (.string Lib.smalls) (.int .u32 (x0 + 1))).run Tryd.prog w = .ok (.int .u8 ((sm (v % 100 * 2 + 1)).toNat : Int)) w := idx_smalls 9 Tryd.underlying9 .u32 _ _ (by omega) (by omega)
        have hXb0 : ∀ w, (Instr.index 9 (.string Lib.smalls) (.int .u32 x0)).run Tryd.prog w = .ok (.int .u8 ((sm (v % 100 * 2)).toNat : Int)) w := idx_smalls 9 Tryd.underlying9 .u32 _ _ (by omega) (by omega)
        have hlo0 : 0 ≤ x0 := by omega
        have hhi0 : x0 ≤ 198 := by omega
        clear hx0 hxe0
        obtain ⟨G0, hc0, hf0⟩ := hw0.cells HI0.out.len
        have AW0 := Lib.hid hw0
        have AB0 := Lib.hid hb0
        clear hw0 hb0
        go_region
        go_wp2
        go_end0
        have hfin : put2 off l0 0 (v) = R := HI1.out.fin
        rw [← hfin]
        exact ⟨rfl, AW0.out.put2 0 (v), below_put2 AB0.out _ _ _ _⟩
      · -- 3 places left
        have hsm := HI0.out.small
        go_wp2
        have HI1 := Lib.hid (Inv.step (show Inv off R N (1 + 2) (v) l0 from HI0.out))
        go_name_slot 16 x0 hx0
        have hxe0 : x0 = ((v % 100 * 2 : Nat) : Int) := by omega
        have hXa0 : ∀ w, (Instr.index 9 (.string Lib.smalls) (.int .u32 (x0 + 1))).run Tryd.prog w = .ok (.int .u8 ((sm (v % 100 * 2 + 1)).toNat : Int)) w := idx_smalls 9 Tryd.underlying9 .u32 _ _ (by omega) (by omega)
        have hXb0 : ∀ w, (Instr.index 9 (.string Lib.smalls) (.int .u32 x0)).run Tryd.prog w = .ok (.int .u8 ((sm (v % 100 * 2)).toNat : Int)) w := idx_smalls 9 Tryd.underlying9 .u32 _ _ (by omega) (by omega)
        have hlo0 : 0 ≤ x0 := by omega
        have hhi0 : x0 ≤ 198 := by omega
        clear hx0 hxe0
        obtain ⟨G0, hc0, hf0⟩ := hw0.cells HI0.out.len
        have AW0 := Lib.hid hw0
        have AB0 := Lib.hid hb0
        clear hw0 hb0
        go_region
        go_wp2
        go_end0
        have hfin : (put2 off l0 1 (v)).set off (UInt8.ofNat (48 + v / 100)) = R := HI1.out.fin
        have hsmR := HI1.out.small
        rw [← hfin]
        exact ⟨rfl, Whole.last (AW0.out.put2 1 (v)) _ (v / 100) (by omega), ((below_put2 AB0.out _ _ _ _).setCell (p := ⟨b, off, none⟩) (Nat.le_refl _) _)⟩
      · -- 4 places left
        have hsm := HI0.out.small
        go_wp2
        have HI1 := Lib.hid (Inv.step (show Inv off R N (2 + 2) (v) l0 from HI0.out))
        go_name_slot 15 x0 hx0
        have hxe0 : x0 = ((v % 100 * 2 : Nat) : Int) := by omega
        have hXa0 : ∀ w, (Instr.index 9 (.string Lib.smalls) (.int .u32 (x0 + 1))).run Tryd.prog w = .ok (.int .u8 ((sm (v % 100 * 2 + 1)).toNat : Int)) w := idx_smalls 9 Tryd.underlying9 .u32 _ _ (by omega) (by omega)
        have hXb0 : ∀ w, (Instr.index 9 (.string Lib.smalls) (.int .u32 x0)).run Tryd.prog w = .ok (.int .u8 ((sm (v % 100 * 2)).toNat : Int)) w := idx_smalls 9 Tryd.underlying9 .u32 _ _ (by omega) (by omega)
        have hlo0 : 0 ≤ x0 := by omega
        have hhi0 : x0 ≤ 198 := by omega
        clear hx0 hxe0
        obtain ⟨G0, hc0, hf0⟩ := hw0.cells HI0.out.len
        have AW0 := Lib.hid hw0
        have AB0 := Lib.hid hb0
        clear hw0 hb0
        go_region
        go_wp2
        go_name_world W1 hW1
        have hw1 : Whole W1 b 98 (rowA (put2 off l0 (2) (v))) := by rw [← hW1]; exact AW0.out.put2 (2) (v)
        have hb1 : Below b w W1 := by rw [← hW1]; exact below_put2 AB0.out _ _ _ _
        generalize put2 off l0 (2) (v) = l1 at hw1 HI1
        clear hW1 hc0 hf0 AW0 AB0 HI0 hXa0 hXb0
        have HI2 := Lib.hid (Inv.step (show Inv off R N (0 + 2) (v / 100) l1 from HI1.out))
        go_name_slot 14 x1 hx1
        have hxe1 : x1 = ((v / 100 % 100 * 2 : Nat) : Int) := by omega
        have hXa1 : ∀ w, (Instr.index 9 (.string Lib.smalls) (.int .u32 (x1 + 1))).run Tryd.prog w = .ok (.int .u8 ((sm (v / 100 % 100 * 2 + 1)).toNat : Int)) w := idx_smalls 9 Tryd.underlying9 .u32 _ _ (by omega) (by omega)
        have hXb1 : ∀ w, (Instr.index 9 (.string Lib.smalls) (.int .u32 x1)).run Tryd.prog w = .ok (.int .u8 ((sm (v / 100 % 100 * 2)).toNat : Int)) w := idx_smalls 9 Tryd.underlying9 .u32 _ _ (by omega) (by omega)
        have hlo1 : 0 ≤ x1 := by omega
        have hhi1 : x1 ≤ 198 := by omega
        clear hx1 hxe1
        obtain ⟨G1, hc1, hf1⟩ := hw1.cells HI1.out.len
        have AW1 := Lib.hid hw1
        have AB1 := Lib.hid hb1
        clear hw1 hb1
        go_region
        go_wp2
        go_end0
        have hfin : put2 off l1 0 (v / 100) = R := HI2.out.fin
        rw [← hfin]
        exact ⟨rfl, AW1.out.put2 0 (v / 100), below_put2 AB1.out _ _ _ _⟩
      · -- 5 places left
        have hsm := HI0.out.small
        go_wp2
        have HI1 := Lib.hid (Inv.step (show Inv off R N (3 + 2) (v) l0 from HI0.out))
        go_name_slot 15 x0 hx0
        have hxe0 : x0 = ((v % 100 * 2 : Nat) : Int) := by omega
        have hXa0 : ∀ w, (Instr.index 9 (.string Lib.smalls) (.int .u32 (x0 + 1))).run Tryd.prog w = .ok (.int .u8 ((sm (v % 100 * 2 + 1)).toNat : Int)) w := idx_smalls 9 Tryd.underlying9 .u32 _ _ (by omega) (by omega)
        have hXb0 : ∀ w, (Instr.index 9 (.string Lib.smalls) (.int .u32 x0)).run Tryd.prog w = .ok (.int .u8 ((sm (v % 100 * 2)).toNat : Int)) w := idx_smalls 9 Tryd.underlying9 .u32 _ _ (by omega) (by omega)
        have hlo0 : 0 ≤ x0 := by omega
        have hhi0 : x0 ≤ 198 := by omega
        clear hx0 hxe0
        obtain ⟨G0, hc0, hf0⟩ := hw0.cells HI0.out.len
        have AW0 := Lib.hid hw0
        have AB0 := Lib.hid hb0
        clear hw0 hb0
        go_region
        go_wp2
        go_name_world W1 hW1
        have hw1 : Whole W1 b 98 (rowA (put2 off l0 (3) (v))) := by rw [← hW1]; exact AW0.out.put2 (3) (v)
        have hb1 : Below b w W1 := by rw [← hW1]; exact below_put2 AB0.out _ _ _ _
        generalize put2 off l0 (3) (v) = l1 at hw1 HI1
        clear hW1 hc0 hf0 AW0 AB0 HI0 hXa0 hXb0
        have HI2 := Lib.hid (Inv.step (show Inv off R N (1 + 2) (v / 100) l1 from HI1.out))
        go_name_slot 14 x1 hx1
        have hxe1 : x1 = ((v / 100 % 100 * 2 : Nat) : Int) := by omega
        have hXa1 : ∀ w, (Instr.index 9 (.string Lib.smalls) (.int .u32 (x1 + 1))).run Tryd.prog w = .ok (.int .u8 ((sm (v / 100 % 100 * 2 + 1)).toNat : Int)) w := idx_smalls 9 Tryd.underlying9 .u32 _ _ (by omega) (by omega)
        have hXb1 : ∀ w, (Instr.index 9 (.string Lib.smalls) (.int .u32 x1)).run Tryd.prog w = .ok (.int .u8 ((sm (v / 100 % 100 * 2)).toNat : Int)) w := idx_smalls 9 Tryd.underlying9 .u32 _ _ (by omega) (by omega)
        have hlo1 : 0 ≤ x1 := by omega
        have hhi1 : x1 ≤ 198 := by omega
        clear hx1 hxe1
        obtain ⟨G1, hc1, hf1⟩ := hw1.cells HI1.out.len
        have AW1 := Lib.hid hw1
        have AB1 := Lib.hid hb1
        clear hw1 hb1
        go_region
        go_wp2
        go_end0
        have hfin : (put2 off l1 1 (v / 100)).set off (UInt8.ofNat (48 + v / 100 / 100)) = R := HI2.out.fin
        have hsmR := HI2.out.small
        rw [← hfin]
        exact ⟨rfl, Whole.last (AW1.out.put2 1 (v / 100)) _ (v / 100 / 100) (by omega), ((below_put2 AB1.out _ _ _ _).setCell (p := ⟨b, off, none⟩) (Nat.le_refl _) _)⟩
      · -- 6 places left
        have hsm := HI0.out.small
        go_wp2
        have HI1 := Lib.hid (Inv.step (show Inv off R N (4 + 2) (v) l0 from HI0.out))
        go_name_slot 15 x0 hx0
        have hxe0 : x0 = ((v % 100 * 2 : Nat) : Int) := by omega
        have hXa0 : ∀ w, (Instr.index 9 (.string Lib.smalls) (.int .u32 (x0 + 1))).run Tryd.prog w = .ok (.int .u8 ((sm (v % 100 * 2 + 1)).toNat : Int)) w := idx_smalls 9 Tryd.underlying9 .u32 _ _ (by omega) (by omega)
        have hXb0 : ∀ w, (Instr.index 9 (.string Lib.smalls) (.int .u32 x0)).run Tryd.prog w = .ok (.int .u8 ((sm (v % 100 * 2)).toNat : Int)) w := idx_smalls 9 Tryd.underlying9 .u32 _ _ (by omega) (by omega)
        have hlo0 : 0 ≤ x0 := by omega
        have hhi0 : x0 ≤ 198 := by omega
        clear hx0 hxe0
        obtain ⟨G0, hc0, hf0⟩ := hw0.cells HI0.out.len
        have AW0 := Lib.hid hw0
        have AB0 := Lib.hid hb0
        clear hw0 hb0
        go_region
        go_wp2
        go_name_world W1 hW1
        have hw1 : Whole W1 b 98 (rowA (put2 off l0 (4) (v))) := by rw [← hW1]; exact AW0.out.put2 (4) (v)
        have hb1 : Below b w W1 := by rw [← hW1]; exact below_put2 AB0.out _ _ _ _
        generalize put2 off l0 (4) (v) = l1 at hw1 HI1
        clear hW1 hc0 hf0 AW0 AB0 HI0 hXa0 hXb0
        have HI2 := Lib.hid (Inv.step (show Inv off R N (2 + 2) (v / 100) l1 from HI1.out))
        go_name_slot 14 x1 hx1
        have hxe1 : x1 = ((v / 100 % 100 * 2 : Nat) : Int) := by omega
        have hXa1 : ∀ w, (Instr.index 9 (.string Lib.smalls) (.int .u32 (x1 + 1))).run Tryd.prog w = .ok (.int .u8 ((sm (v / 100 % 100 * 2 + 1)).toNat : Int)) w := idx_smalls 9 Tryd.underlying9 .u32 _ _ (by omega) (by omega)
        have hXb1 : ∀ w, (Instr.index 9 (.string Lib.smalls) (.int .u32 x1)).run Tryd.prog w = .ok (.int .u8 ((sm (v / 100 % 100 * 2)).toNat : Int)) w := idx_smalls 9 Tryd.underlying9 .u32 _ _ (by omega) (by omega)
        have hlo1 : 0 ≤ x1 := by omega
        have hhi1 : x1 ≤ 198 := by omega
        clear hx1 hxe1
        obtain ⟨G1, hc1, hf1⟩ := hw1.cells HI1.out.len
        have AW1 := Lib.hid hw1
        have AB1 := Lib.hid hb1
        clear hw1 hb1
        go_region
        go_wp2
        go_name_world W2 hW2
        have hw2 : Whole W2 b 98 (rowA (put2 off l1 (2) (v / 100))) := by rw [← hW2]; exact AW1.out.put2 (2) (v / 100)
        have hb2 : Below b w W2 := by rw [← hW2]; exact below_put2 AB1.out _ _ _ _
        generalize put2 off l1 (2) (v / 100) = l2 at hw2 HI2
        clear hW2 hc1 hf1 AW1 AB1 HI1 hXa1 hXb1
        have HI3 := Lib.hid (Inv.step (show Inv off R N (0 + 2) (v / 100 / 100) l2 from HI2.out))
        go_name_slot 16 x2 hx2
        have hxe2 : x2 = ((v / 100 / 100 % 100 * 2 : Nat) : Int) := by omega
        have hXa2 : ∀ w, (Instr.index 9 (.string Lib.smalls) (.int .u32 (x2 + 1))).run Tryd.prog w = .ok (.int .u8 ((sm (v / 100 / 100 % 100 * 2 + 1)).toNat : Int)) w := idx_smalls 9 Tryd.underlying9 .u32 _ _ (by omega) (by omega)
        have hXb2 : ∀ w, (Instr.index 9 (.string Lib.smalls) (.int .u32 x2)).run Tryd.prog w = .ok (.int .u8 ((sm (v / 100 / 100 % 100 * 2)).toNat : Int)) w := idx_smalls 9 Tryd.underlying9 .u32 _ _ (by omega) (by omega)
        have hlo2 : 0 ≤ x2 := by omega
        have hhi2 : x2 ≤ 198 := by omega
        clear hx2 hxe2
        obtain ⟨G2, hc2, hf2⟩ := hw2.cells HI2.out.len
        have AW2 := Lib.hid hw2
        have AB2 := Lib.hid hb2
        clear hw2 hb2
        go_region
        go_wp2
        go_end0
        have hfin : put2 off l2 0 (v / 100 / 100) = R := HI3.out.fin
        rw [← hfin]
        exact ⟨rfl, AW2.out.put2 0 (v / 100 / 100), below_put2 AB2.out _ _ _ _⟩
      · -- 7 places left
        have hsm := HI0.out.small
        go_wp2
        have HI1 := Lib.hid (Inv.step (show Inv off R N (5 + 2) (v) l0 from HI0.out))
        go_name_slot 15 x0 hx0
        have hxe0 : x0 = ((v % 100 * 2 : Nat) : Int) := by omega
        have hXa0 : ∀ w, (Instr.index 9 (.string Lib.smalls) (.int .u32 (x0 + 1))).run Tryd.prog w = .ok (.int .u8 ((sm (v % 100 * 2 + 1)).toNat : Int)) w := idx_smalls 9 Tryd.underlying9 .u32 _ _ (by omega) (by omega)
        have hXb0 : ∀ w, (Instr.index 9 (.string Lib.smalls) (.int .u32 x0)).run Tryd.prog w = .ok (.int .u8 ((sm (v % 100 * 2)).toNat : Int)) w := idx_smalls 9 Tryd.underlying9 .u32 _ _ (by omega) (by omega)
        have hlo0 : 0 ≤ x0 := by omega
        have hhi0 : x0 ≤ 198 := by omega
        clear hx0 hxe0
        obtain ⟨G0, hc0, hf0⟩ := hw0.cells HI0.out.len
        have AW0 := Lib.hid hw0
        have AB0 := Lib.hid hb0
        clear hw0 hb0
        go_region
        go_wp2
        go_name_world W1 hW1
        have hw1 : Whole W1 b 98 (rowA (put2 off l0 (5) (v))) := by rw [← hW1]; exact AW0.out.put2 (5) (v)
        have hb1 : Below b w W1 := by rw [← hW1]; exact below_put2 AB0.out _ _ _ _
        generalize put2 off l0 (5) (v) = l1 at hw1 HI1
        clear hW1 hc0 hf0 AW0 AB0 HI0 hXa0 hXb0
        have HI2 := Lib.hid (Inv.step (show Inv off R N (3 + 2) (v / 100) l1 from HI1.out))
        go_name_slot 14 x1 hx1
        have hxe1 : x1 = ((v / 100 % 100 * 2 : Nat) : Int) := by omega
        have hXa1 : ∀ w, (Instr.index 9 (.string Lib.smalls) (.int .u32 (x1 + 1))).run Tryd.prog w = .ok (.int .u8 ((sm (v / 100 % 100 * 2 + 1)).toNat : Int)) w := idx_smalls 9 Tryd.underlying9 .u32 _ _ (by omega) (by omega)
        have hXb1 : ∀ w, (Instr.index 9 (.string Lib.smalls) (.int .u32 x1)).run Tryd.prog w = .ok (.int .u8 ((sm (v / 100 % 100 * 2)).toNat : Int)) w := idx_smalls 9 Tryd.underlying9 .u32 _ _ (by omega) (by omega)
        have hlo1 : 0 ≤ x1 := by omega
        have hhi1 : x1 ≤ 198 := by omega
        clear hx1 hxe1
        obtain ⟨G1, hc1, hf1⟩ := hw1.cells HI1.out.len
        have AW1 := Lib.hid hw1
        have AB1 := Lib.hid hb1
        clear hw1 hb1
        go_region
        go_wp2
        go_name_world W2 hW2
        have hw2 : Whole W2 b 98 (rowA (put2 off l1 (3) (v / 100))) := by rw [← hW2]; exact AW1.out.put2 (3) (v / 100)
        have hb2 : Below b w W2 := by rw [← hW2]; exact below_put2 AB1.out _ _ _ _
        generalize put2 off l1 (3) (v / 100) = l2 at hw2 HI2
        clear hW2 hc1 hf1 AW1 AB1 HI1 hXa1 hXb1
        have HI3 := Lib.hid (Inv.step (show Inv off R N (1 + 2) (v / 100 / 100) l2 from HI2.out))
        go_name_slot 16 x2 hx2
        have hxe2 : x2 = ((v / 100 / 100 % 100 * 2 : Nat) : Int) := by omega
        have hXa2 : ∀ w, (Instr.index 9 (.string Lib.smalls) (.int .u32 (x2 + 1))).run Tryd.prog w = .ok (.int .u8 ((sm (v / 100 / 100 % 100 * 2 + 1)).toNat : Int)) w := idx_smalls 9 Tryd.underlying9 .u32 _ _ (by omega) (by omega)
        have hXb2 : ∀ w, (Instr.index 9 (.string Lib.smalls) (.int .u32 x2)).run Tryd.prog w = .ok (.int .u8 ((sm (v / 100 / 100 % 100 * 2)).toNat : Int)) w := idx_smalls 9 Tryd.underlying9 .u32 _ _ (by omega) (by omega)
        have hlo2 : 0 ≤ x2 := by omega
        have hhi2 : x2 ≤ 198 := by omega
        clear hx2 hxe2
        obtain ⟨G2, hc2, hf2⟩ := hw2.cells HI2.out.len
        have AW2 := Lib.hid hw2
        have AB2 := Lib.hid hb2
        clear hw2 hb2
        go_region
        go_wp2
        go_end0
        have hfin : (put2 off l2 1 (v / 100 / 100)).set off (UInt8.ofNat (48 + v / 100 / 100 / 100)) = R := HI3.out.fin
        have hsmR := HI3.out.small
        rw [← hfin]
        exact ⟨rfl, Whole.last (AW2.out.put2 1 (v / 100 / 100)) _ (v / 100 / 100 / 100) (by omega), ((below_put2 AB2.out _ _ _ _).setCell (p := ⟨b, off, none⟩) (Nat.le_refl _) _)⟩
end Go.Proofs.YtemeeeiglifpaaaDoor

/- Layer 2: FormatInt, Itoa and the texts of errors, whatever the table of powers holds: they hang on the error and the table alone. No condition of its own. -/

namespace Go.Proofs.YtemeeeiglifpaaaDoor
open Go.RowKit Go.Lib

/-- what numDigits' row holds behind formatBase10 -/
def rowR (pw : Nat → Nat) (u : Nat) : List UInt8 := fbF 1 (ndF pw u) u (List.replicate 24 0)
theorem fbF_len (off : Nat) : ∀ (n v : Nat) (l : List UInt8), (fbF off n v l).length = l.length
  | 0, _, _ => rfl
  | 1, _, _ => by simp [fbF]
  | n + 2, v, l => by rw [fbF, fbF_len off n, put2_len]
theorem rowR_len (pw : Nat → Nat) (u : Nat) : (rowR pw u).length = 24 := by rw [rowR, fbF_len]; rfl
def itoaF (pw : Nat → Nat) (n : Int) : List UInt8 :=
  if 0 ≤ n ∧ n < 100 then Lib.decDigits n.toNat
  else if n < 0 then 45 :: ((rowR pw n.natAbs).drop 1).take (ndF pw n.natAbs)
  else ((rowR pw n.natAbs).drop 1).take (ndF pw n.natAbs)
theorem itoaF_len (pw : Nat → Nat) (n : Int) : (itoaF pw n).length ≤ 24 := by
  unfold itoaF
  have hl := rowR_len pw n.natAbs
  split
  · rename_i h
    have : Lib.nDigits n.toNat ≤ 24 := by
      have h2 : Lib.nDigits n.toNat ≤ 3 := by
        rw [Lib.nDigits]
        split
        · omega
        · rw [Lib.nDigits]
          split
          · omega
          · omega
      omega
    rw [Lib.decDigits_length]
    exact this
  · split
    · simp [List.length_take, hl]; omega
    · simp [List.length_take, hl]; omega
theorem zeros_row : rowA (List.replicate 24 0) = #[Value.int .u8 0, Value.int .u8 0, Value.int .u8 0, Value.int .u8 0, Value.int .u8 0, Value.int .u8 0, Value.int .u8 0, Value.int .u8 0, Value.int .u8 0, Value.int .u8 0, Value.int .u8 0, Value.int .u8 0, Value.int .u8 0, Value.int .u8 0, Value.int .u8 0, Value.int .u8 0, Value.int .u8 0, Value.int .u8 0, Value.int .u8 0, Value.int .u8 0, Value.int .u8 0, Value.int .u8 0, Value.int .u8 0, Value.int .u8 0] := by kernel_rfl
theorem Whole.string {w : World} {b : Nat} {l : List UInt8} (h : Whole w b 98 (rowA l)) (off n cap : Nat) (hn : off + n ≤ l.length) :
    (convert 24 9 (.slice (some ⟨b, off, none⟩) n cap)).run Tryd.prog w = .ok (.string ⟨((l.drop off).take n).toArray⟩) w := by
  have hlen : ((l.drop off).take n).length = n := by simp; omega
  have := run_convert_bytes_back (P := Tryd.prog) w 24 9 5 ⟨b, off, none⟩ cap ((l.drop off).take n) Tryd.underlying24 Tryd.underlying5 Tryd.underlying9 (fun j hj => by
    rw [Lib.add_plain, h.cell]
    have hj' : off + j < l.length := by omega
    simp [rowA, hj'])
  rwa [hlen] at this

theorem alen : Tryd.prog.arrayLen 98 = 24 := by kernel_rfl

set_option maxHeartbeats 4000000 in
set_option maxRecDepth 100000 in
theorem Format_pos (pw : Nat → Nat) (u : Nat) (h1 : 100 ≤ u) (h2 : u ≤ 9223372036854775807) (w : World) (hT : Tab pw w) :
    Calls Tryd.prog 98 #[.int .i64 (u : Int), .int .i64 10] w fun e w' => e = .returned (.string ⟨(((rowR pw u).drop 1).take (ndF pw u)).toArray⟩) ∧ Below w.heap.size w w' := by
  obtain ⟨hnd, hu⟩ := ndF_le pw u (by omega) (by omega)
  have hTa := hT.alloc (.cells (rowA (List.replicate 24 0)) 98)
  have hw0 := Whole.new w 98 (rowA (List.replicate 24 0))
  have hI : Inv 1 (rowR pw u) (ndF pw u) (ndF pw u) u (List.replicate 24 0) := ⟨by rw [List.length_replicate]; omega, Nat.le_refl _, hu, rfl⟩
  have hlr := rowR_len pw u
  have hN := numDigits_any pw u (by omega) (by omega) _ hTa
  have hF := format_any w.heap.size 1 23 (ndF pw u) u (List.replicate 24 0) (rowR pw u) _ hw0 hI hnd (by omega)
  generalize ndF pw u = nd at hnd hu hI hN hF ⊢
  generalize rowR pw u = R at hI hlr hF ⊢
  have HLR := Lib.hid hlr
  have HN := Lib.hid hN
  have HF := Lib.hid hF
  have HT := Lib.hid hTa
  clear hlr hI hN hF hw0 hTa hT hu
  have hsl1 : ∀ W, (Instr.sliceAt 98 (.pointer (some ⟨w.heap.size, 0, none⟩)) (some (.int .i64 1)) (some (.int .i64 (1 + (nd : Int)))) none).run Tryd.prog W = .ok (.slice (some ⟨w.heap.size, 1, none⟩) nd 23) W := fun W => by
    rw [run_sliceAt_array_lh W 98 ⟨w.heap.size, 0, none⟩ (by kernel_rfl) .i64 .i64 1 (1 + (nd : Int)) (by omega) (by omega) (by rw [alen]; omega)]
    rw [alen]
    go_simp
    omega
  go_enter Tryd.func98, Tryd.ntmps98
  go_wp2_with fail
  rw [← zeros_row]
  refine HN.out.mono ?_
  rintro e w1 ⟨rfl, rfl⟩
  go_wp2_with fail
  refine HF.out.mono ?_
  rintro e w2 ⟨rfl, hwR, b2⟩
  have hbB : Below w.heap.size w w2 := ((Below.refl _ w).alloc (Nat.le_refl _) _).trans b2
  have hcv := hwR.string 1 nd 23 (by rw [HLR.out]; omega)
  go_wp2_with fail
  go_ret
  exact ⟨by rw [List.drop_one]; rfl, hbB⟩

set_option maxHeartbeats 4000000 in
set_option maxRecDepth 100000 in
theorem Format_neg (pw : Nat → Nat) (u : Nat) (h1 : 1 ≤ u) (h2 : u ≤ 9223372036854775808) (w : World) (hT : Tab pw w) :
    Calls Tryd.prog 98 #[.int .i64 (-(u : Int)), .int .i64 10] w fun e w' => e = .returned (.string ⟨(45 :: ((rowR pw u).drop 1).take (ndF pw u)).toArray⟩) ∧ Below w.heap.size w w' := by
  have hwr : IntKind.u64.wrap (-IntKind.u64.wrap (-(u : Int))) = (u : Int) := by rw [IntKind.wrap_u64, IntKind.wrap_u64]; omega
  obtain ⟨hnd, hu⟩ := ndF_le pw u (by omega) (by omega)
  have hTa := hT.alloc (.cells (rowA (List.replicate 24 0)) 98)
  have hw0 := Whole.new w 98 (rowA (List.replicate 24 0))
  have hI : Inv 1 (rowR pw u) (ndF pw u) (ndF pw u) u (List.replicate 24 0) := ⟨by rw [List.length_replicate]; omega, Nat.le_refl _, hu, rfl⟩
  have hlr := rowR_len pw u
  have hN := numDigits_any pw u (by omega) (by omega) _ hTa
  have hF := format_any w.heap.size 1 23 (ndF pw u) u (List.replicate 24 0) (rowR pw u) _ hw0 hI hnd (by omega)
  generalize ndF pw u = nd at hnd hu hI hN hF ⊢
  generalize rowR pw u = R at hI hlr hF ⊢
  have HLR := Lib.hid hlr
  have HN := Lib.hid hN
  have HF := Lib.hid hF
  have HT := Lib.hid hTa
  clear hlr hI hN hF hw0 hTa hT hu
  have hsl1 : ∀ W, (Instr.sliceAt 98 (.pointer (some ⟨w.heap.size, 0, none⟩)) (some (.int .i64 1)) (some (.int .i64 (1 + (nd : Int)))) none).run Tryd.prog W = .ok (.slice (some ⟨w.heap.size, 1, none⟩) nd 23) W := fun W => by
    rw [run_sliceAt_array_lh W 98 ⟨w.heap.size, 0, none⟩ (by kernel_rfl) .i64 .i64 1 (1 + (nd : Int)) (by omega) (by omega) (by rw [alen]; omega)]
    rw [alen]
    go_simp
    omega
  have hsl2 : ∀ W, (Instr.sliceAt 98 (.pointer (some ⟨w.heap.size, 0, none⟩)) none (some (.int .i64 (1 + (nd : Int)))) none).run Tryd.prog W = .ok (.slice (some ⟨w.heap.size, 0, none⟩) (1 + nd) 24) W := fun W => by
    rw [run_sliceAt_array_h W 98 ⟨w.heap.size, 0, none⟩ (by kernel_rfl) .i64 (1 + (nd : Int)) (by omega) (by rw [alen]; omega)]
    rw [alen]
    go_simp
    omega
  go_enter Tryd.func98, Tryd.ntmps98
  go_wp2_with fail
  rw [← zeros_row]
  refine HN.out.mono ?_
  rintro e w1 ⟨rfl, rfl⟩
  go_wp2_with fail
  refine HF.out.mono ?_
  rintro e w2 ⟨rfl, hwR, b2⟩
  have hbB : Below w.heap.size w w2 := ((Below.refl _ w).alloc (Nat.le_refl _) _).trans b2
  obtain ⟨x0, hc0⟩ := hwR.row (i := 0) (by rw [HLR.out]; omega)
  have hf0 := hwR.frozen 0
  have hcv := (hwR.put 0 45).string 0 (1 + nd) 24 (by rw [List.length_set, HLR.out]; omega)
  rw [show ((45 : UInt8).toNat : Int) = 45 from rfl] at hcv
  have e45 : (((R.set 0 45).drop 0).take (1 + nd)) = 45 :: (R.drop 1).take nd := by
    have := HLR.out
    match R, this with
    | r0 :: r, _ => simp [Nat.add_comm 1 nd]
  rw [e45] at hcv
  clear e45
  go_wp2_with fail
  go_ret
  exact ⟨by rw [List.drop_one]; rfl, hbB.setCell (Nat.le_refl _) _⟩

theorem Itoa_any (pw : Nat → Nat) (n : Int) (h0 : -9223372036854775808 ≤ n) (h1 : n ≤ 9223372036854775807) (w : World) (hT : Tab pw w) :
    Calls Tryd.prog 98 #[.int .i64 n, .int .i64 10] w fun e w' => e = .returned (.string ⟨(itoaF pw n).toArray⟩) ∧ Below w.heap.size w w' := by
  unfold itoaF
  by_cases hs : 0 ≤ n ∧ n < 100
  · rw [if_pos hs]
    obtain ⟨i, rfl⟩ := Int.eq_ofNat_of_zero_le hs.1
    obtain ⟨_, hi⟩ := hs
    have hi' : i < 100 := by omega
    go_enter Tryd.func98, Tryd.ntmps98
    go_wp2_with fail
    refine (Tryd.internal_strconv_small i hi' _).mono ?_
    rintro e w1 ⟨rfl, rfl⟩
    go_wp2_with fail
    go_ret
    exact ⟨rfl, Below.refl _ _⟩
  · rw [if_neg hs]
    by_cases hn : n < 0
    · rw [if_pos hn]
      obtain ⟨u, rfl⟩ : ∃ u : Nat, n = -(u : Int) := ⟨n.natAbs, by omega⟩
      rw [show (-(u : Int)).natAbs = u by omega]
      exact Format_neg pw u (by omega) (by omega) w hT
    · rw [if_neg hn]
      obtain ⟨u, rfl⟩ : ∃ u : Nat, n = u := ⟨n.toNat, by omega⟩
      rw [show ((u : Int)).natAbs = u by omega]
      exact Format_pos pw u (by omega) (by omega) w hT
end Go.Proofs.YtemeeeiglifpaaaDoor

