/- Layer 2: FormatInt, Itoa and the texts of errors, whatever the table of powers holds: they hang on the error and the table alone. No condition of its own. -/
import Derived.Test.YtkcgmheljdkacaaDoorFaultP
namespace Go.Proofs.YtkcgmheljdkacaaDoor
open Go.RowKit Go.Lib

/-- what numDigits' row holds behind formatBase10 -/
def rowR (pw : Nat → Nat) (u : Nat) : List UInt8 := fbF 1 (ndF pw u) u (List.replicate 24 0)
theorem fbF_len (off : Nat) : ∀ (n v : Nat) (l : List UInt8), (fbF off n v l).length = l.length
  | 0, _, _ => rfl
  | 1, _, _ => by simp [fbF]
  | n + 2, v, l => by rw [fbF, fbF_len off n, put2_len]
theorem rowR_len (pw : Nat → Nat) (u : Nat) : (rowR pw u).length = 24 := by rw [rowR, fbF_len]; rfl
def itoaF (pw : Nat → Nat) (n : Int) : List UInt8 :=
  if 0 ≤ n ∧ n < 100 then Lib.decDigits n.toNat
  else if n < 0 then 45 :: ((rowR pw n.natAbs).drop 1).take (ndF pw n.natAbs)
  else ((rowR pw n.natAbs).drop 1).take (ndF pw n.natAbs)
theorem itoaF_len (pw : Nat → Nat) (n : Int) : (itoaF pw n).length ≤ 24 := by
  unfold itoaF
  have hl := rowR_len pw n.natAbs
  split
  · rename_i h
    have : Lib.nDigits n.toNat ≤ 24 := by
      have h2 : Lib.nDigits n.toNat ≤ 3 := by
        rw [Lib.nDigits]
        split
        · omega
        · rw [Lib.nDigits]
          split
          · omega
          · omega
      omega
    rw [Lib.decDigits_length]
    exact this
  · split
    · simp [List.length_take, hl]; omega
    · simp [List.length_take, hl]; omega
theorem zeros_row : rowA (List.replicate 24 0) = #[Value.int .u8 0, Value.int .u8 0, Value.int .u8 0, Value.int .u8 0, Value.int .u8 0, Value.int .u8 0, Value.int .u8 0, Value.int .u8 0, Value.int .u8 0, Value.int .u8 0, Value.int .u8 0, Value.int .u8 0, Value.int .u8 0, Value.int .u8 0, Value.int .u8 0, Value.int .u8 0, Value.int .u8 0, Value.int .u8 0, Value.int .u8 0, Value.int .u8 0, Value.int .u8 0, Value.int .u8 0, Value.int .u8 0, Value.int .u8 0] := by kernel_rfl
theorem Whole.string {w : World} {b : Nat} {l : List UInt8} (h : Whole w b 102 (rowA l)) (off n cap : Nat) (hn : off + n ≤ l.length) :
    (convert 106 9 (.slice (some ⟨b, off, none⟩) n cap)).run Tryd.prog w = .ok (.string ⟨((l.drop off).take n).toArray⟩) w := by
  have hlen : ((l.drop off).take n).length = n := by simp; omega
  have := run_convert_bytes_back (P := Tryd.prog) w 106 9 5 ⟨b, off, none⟩ cap ((l.drop off).take n) Tryd.underlying106 Tryd.underlying5 Tryd.underlying9 (fun j hj => by
    rw [Lib.add_plain, h.cell]
    have hj' : off + j < l.length := by omega
    simp [rowA, hj'])
  rwa [hlen] at this

theorem alen : Tryd.prog.arrayLen 102 = 24 := by kernel_rfl

set_option maxHeartbeats 4000000 in
set_option maxRecDepth 100000 in
theorem Format_pos (pw : Nat → Nat) (u : Nat) (h1 : 100 ≤ u) (h2 : u ≤ 9223372036854775807) (w : World) (hT : Tab pw w) :
    Calls Tryd.prog 52 #[.int .i64 (u : Int), .int .i64 10] w fun e w' => e = .returned (.string ⟨(((rowR pw u).drop 1).take (ndF pw u)).toArray⟩) ∧ Below w.heap.size w w' := by
  obtain ⟨hnd, hu⟩ := ndF_le pw u (by omega) (by omega)
  have hTa := hT.alloc (.cells (rowA (List.replicate 24 0)) 102)
  have hw0 := Whole.new w 102 (rowA (List.replicate 24 0))
  have hI : Inv 1 (rowR pw u) (ndF pw u) (ndF pw u) u (List.replicate 24 0) := ⟨by rw [List.length_replicate]; omega, Nat.le_refl _, hu, rfl⟩
  have hlr := rowR_len pw u
  have hN := numDigits_any pw u (by omega) (by omega) _ hTa
  have hF := format_any w.heap.size 1 23 (ndF pw u) u (List.replicate 24 0) (rowR pw u) _ hw0 hI hnd (by omega)
  generalize ndF pw u = nd at hnd hu hI hN hF ⊢
  generalize rowR pw u = R at hI hlr hF ⊢
  have HLR := Lib.hid hlr
  have HN := Lib.hid hN
  have HF := Lib.hid hF
  have HT := Lib.hid hTa
  clear hlr hI hN hF hw0 hTa hT hu
  have hsl1 : ∀ W, (Instr.sliceAt 102 (.pointer (some ⟨w.heap.size, 0, none⟩)) (some (.int .i64 1)) (some (.int .i64 (1 + (nd : Int)))) none).run Tryd.prog W = .ok (.slice (some ⟨w.heap.size, 1, none⟩) nd 23) W := fun W => by
    rw [run_sliceAt_array_lh W 102 ⟨w.heap.size, 0, none⟩ (by kernel_rfl) .i64 .i64 1 (1 + (nd : Int)) (by omega) (by omega) (by rw [alen]; omega)]
    rw [alen]
    go_simp
    omega
  go_enter Tryd.func52, Tryd.ntmps52
  go_wp2_with fail
  rw [← zeros_row]
  refine HN.out.mono ?_
  rintro e w1 ⟨rfl, rfl⟩
  go_wp2_with fail
  refine HF.out.mono ?_
  rintro e w2 ⟨rfl, hwR, b2⟩
  have hbB : Below w.heap.size w w2 := ((Below.refl _ w).alloc (Nat.le_refl _) _).trans b2
  have hcv := hwR.string 1 nd 23 (by rw [HLR.out]; omega)
  go_wp2_with fail
  go_ret
  exact ⟨by rw [List.drop_one]; rfl, hbB⟩

set_option maxHeartbeats 4000000 in
set_option maxRecDepth 100000 in
theorem Format_neg (pw : Nat → Nat) (u : Nat) (h1 : 1 ≤ u) (h2 : u ≤ 9223372036854775808) (w : World) (hT : Tab pw w) :
    Calls Tryd.prog 52 #[.int .i64 (-(u : Int)), .int .i64 10] w fun e w' => e = .returned (.string ⟨(45 :: ((rowR pw u).drop 1).take (ndF pw u)).toArray⟩) ∧ Below w.heap.size w w' := by
  have hwr : IntKind.u64.wrap (-IntKind.u64.wrap (-(u : Int))) = (u : Int) := by rw [IntKind.wrap_u64, IntKind.wrap_u64]; omega
  obtain ⟨hnd, hu⟩ := ndF_le pw u (by omega) (by omega)
  have hTa := hT.alloc (.cells (rowA (List.replicate 24 0)) 102)
  have hw0 := Whole.new w 102 (rowA (List.replicate 24 0))
  have hI : Inv 1 (rowR pw u) (ndF pw u) (ndF pw u) u (List.replicate 24 0) := ⟨by rw [List.length_replicate]; omega, Nat.le_refl _, hu, rfl⟩
  have hlr := rowR_len pw u
  have hN := numDigits_any pw u (by omega) (by omega) _ hTa
  have hF := format_any w.heap.size 1 23 (ndF pw u) u (List.replicate 24 0) (rowR pw u) _ hw0 hI hnd (by omega)
  generalize ndF pw u = nd at hnd hu hI hN hF ⊢
  generalize rowR pw u = R at hI hlr hF ⊢
  have HLR := Lib.hid hlr
  have HN := Lib.hid hN
  have HF := Lib.hid hF
  have HT := Lib.hid hTa
  clear hlr hI hN hF hw0 hTa hT hu
  have hsl1 : ∀ W, (Instr.sliceAt 102 (.pointer (some ⟨w.heap.size, 0, none⟩)) (some (.int .i64 1)) (some (.int .i64 (1 + (nd : Int)))) none).run Tryd.prog W = .ok (.slice (some ⟨w.heap.size, 1, none⟩) nd 23) W := fun W => by
    rw [run_sliceAt_array_lh W 102 ⟨w.heap.size, 0, none⟩ (by kernel_rfl) .i64 .i64 1 (1 + (nd : Int)) (by omega) (by omega) (by rw [alen]; omega)]
    rw [alen]
    go_simp
    omega
  have hsl2 : ∀ W, (Instr.sliceAt 102 (.pointer (some ⟨w.heap.size, 0, none⟩)) none (some (.int .i64 (1 + (nd : Int)))) none).run Tryd.prog W = .ok (.slice (some ⟨w.heap.size, 0, none⟩) (1 + nd) 24) W := fun W => by
    rw [run_sliceAt_array_h W 102 ⟨w.heap.size, 0, none⟩ (by kernel_rfl) .i64 (1 + (nd : Int)) (by omega) (by rw [alen]; omega)]
    rw [alen]
    go_simp
    omega
  go_enter Tryd.func52, Tryd.ntmps52
  go_wp2_with fail
  rw [← zeros_row]
  refine HN.out.mono ?_
  rintro e w1 ⟨rfl, rfl⟩
  go_wp2_with fail
  refine HF.out.mono ?_
  rintro e w2 ⟨rfl, hwR, b2⟩
  have hbB : Below w.heap.size w w2 := ((Below.refl _ w).alloc (Nat.le_refl _) _).trans b2
  obtain ⟨x0, hc0⟩ := hwR.row (i := 0) (by rw [HLR.out]; omega)
  have hf0 := hwR.frozen 0
  have hcv := (hwR.put 0 45).string 0 (1 + nd) 24 (by rw [List.length_set, HLR.out]; omega)
  rw [show ((45 : UInt8).toNat : Int) = 45 from rfl] at hcv
  have e45 : (((R.set 0 45).drop 0).take (1 + nd)) = 45 :: (R.drop 1).take nd := by
    have := HLR.out
    match R, this with
    | r0 :: r, _ => simp [Nat.add_comm 1 nd]
  rw [e45] at hcv
  clear e45
  go_wp2_with fail
  go_ret
  exact ⟨by rw [List.drop_one]; rfl, hbB.setCell (Nat.le_refl _) _⟩

theorem Itoa_any (pw : Nat → Nat) (n : Int) (h0 : -9223372036854775808 ≤ n) (h1 : n ≤ 9223372036854775807) (w : World) (hT : Tab pw w) :
    Calls Tryd.prog 52 #[.int .i64 n, .int .i64 10] w fun e w' => e = .returned (.string ⟨(itoaF pw n).toArray⟩) ∧ Below w.heap.size w w' := by
  unfold itoaF
  by_cases hs : 0 ≤ n ∧ n < 100
  · rw [if_pos hs]
    obtain ⟨i, rfl⟩ := Int.eq_ofNat_of_zero_le hs.1
    obtain ⟨_, hi⟩ := hs
    have hi' : i < 100 := by omega
    go_enter Tryd.func52, Tryd.ntmps52
    go_wp2_with fail
    refine (Tryd.internal_strconv_small i hi' _).mono ?_
    rintro e w1 ⟨rfl, rfl⟩
    go_wp2_with fail
    go_ret
    exact ⟨rfl, Below.refl _ _⟩
  · rw [if_neg hs]
    by_cases hn : n < 0
    · rw [if_pos hn]
      obtain ⟨u, rfl⟩ : ∃ u : Nat, n = -(u : Int) := ⟨n.natAbs, by omega⟩
      rw [show (-(u : Int)).natAbs = u by omega]
      exact Format_neg pw u (by omega) (by omega) w hT
    · rw [if_neg hn]
      obtain ⟨u, rfl⟩ : ∃ u : Nat, n = u := ⟨n.toNat, by omega⟩
      rw [show ((u : Int)).natAbs = u by omega]
      exact Format_pos pw u (by omega) (by omega) w hT
end Go.Proofs.YtkcgmheljdkacaaDoor
