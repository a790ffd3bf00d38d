/- Layer 9: the digits of a number to the base 16 (formatBits). It writes nothing that was there. -/
import Derived.Test.YtemeeeiglifpaaaDoorAddrGA
import Derived.Test.YtemeeeiglifpaaaDoorFaultGN
import Derived.Test.YtemeeeiglifpaaaDoorWireE
import Derived.Test.YtemeeeiglifpaaaDoorWireH
import Derived.Test.YtemeeeiglifpaaaDoorSame
import Derived.Test.YtemeeeiglifpaaaDoorFaultShelf
import Derived.Lib.IndexLaws
import Derived.Deep.RegionHeld3

namespace Go.Proofs.YtemeeeiglifpaaaDoor
open Go.RowKit Go.Shelf

/-- the one cell of the library's table that is read -/
def Tz (w : World) : Prop := w.cell? ⟨6, 15, none⟩ = some (.int .u8 4)
theorem Tz.lt {w : World} (h : Tz w) : 6 < w.heap.size := by
  rcases Nat.lt_or_ge 6 w.heap.size with h1 | h1
  · exact h1
  · unfold Tz World.cell? at h
    rw [Array.getElem?_eq_none h1] at h
    simp at h
theorem Tz.below {w w' : World} (h : Tz w) (hb : Below w.heap.size w w') : Tz w' := (hb.cell (p := ⟨6, 15, none⟩) h.lt).trans h
theorem tz64_16 (w : World) (h : Tz w) : Calls Tryd.prog 89 #[.int .u64 16] w fun e w' => e = .returned (.int .i64 4) ∧ w = w' := by
  unfold Tz at h
  have e1 : IntKind.u64.wrap (-16) = 18446744073709551600 := by decide +kernel
  have e2 : bits .and .u64 16 18446744073709551600 = 16 := by decide +kernel
  have e3 : IntKind.u64.wrap (16 * 285870213051353865) = 4573923408821661840 := by decide +kernel
  have e3' : IntKind.u64.wrap 4573923408821661840 = 4573923408821661840 := by decide +kernel
  have e4 : (4573923408821661840 : Int) / 288230376151711744 = 15 := by decide +kernel
  go_enter Tryd.func89, Tryd.ntmps89
  go_wp2_with fail
  go_ret
  exact ⟨rfl, rfl⟩
theorem tz_16 (w : World) (h : Tz w) : Calls Tryd.prog 80 #[.int .u64 16] w fun e w' => e = .returned (.int .i64 4) ∧ w = w' := by
  have h1 := tz64_16 w h
  go_enter Tryd.func80, Tryd.ntmps80
  go_wp2_with fail
  refine h1.mono ?_
  rintro e w1 ⟨rfl, rfl⟩
  go_wp2_with fail
  go_ret
  exact ⟨rfl, rfl⟩
theorem pow2_16 (w : World) : Calls Tryd.prog 79 #[.int .i64 16] w fun e w' => e = .returned (.bool true) ∧ w = w' := by
  go_enter Tryd.func79, Tryd.ntmps79
  go_wp2_with fail
  go_ret
  exact ⟨rfl, rfl⟩
/-- the array while its tail fills with digits -/
def Tail (C : Array Value) (ds : List UInt8) : Prop := C.size = 65 ∧ C.toList.drop (65 - ds.length) = ds.map bv
theorem Tail.push {C : Array Value} {ds : List UInt8} (h : Tail C ds) (hl : ds.length < 65) (d : UInt8) : Tail (C.setIfInBounds (64 - ds.length) (bv d)) (d :: ds) := by
  refine ⟨by simpa using h.1, ?_⟩
  have h1 := h.1
  have hlen : C.toList.length = 65 := by simpa using h1
  rw [Array.toList_setIfInBounds, List.length_cons, show 65 - (ds.length + 1) = 64 - ds.length by omega]
  have h2 : 64 - ds.length < (C.toList.set (64 - ds.length) (bv d)).length := by rw [List.length_set]; omega
  rw [List.drop_eq_getElem_cons h2, List.getElem_set_self, List.map_cons]
  congr 1
  rw [show 64 - ds.length + 1 = 65 - ds.length by omega, List.drop_set_of_lt (by omega)]
  exact h.2
theorem Tail.string {w : World} {b : Nat} {C : Array Value} {ds : List UInt8} (h : Tail C ds) (hw : Whole w b 115 C) {j : Nat} (hj : j + ds.length = 65) (cap : Nat) :
    (convert 24 9 (.slice (some ⟨b, j, none⟩) ds.length cap)).run Tryd.prog w = .ok (.string ⟨ds.toArray⟩) w := by
  refine run_convert_bytes_back (P := Tryd.prog) w 24 9 5 ⟨b, j, none⟩ cap ds Tryd.underlying24 Tryd.underlying5 Tryd.underlying9 (fun t ht => ?_)
  rw [show (⟨b, j, none⟩ : Addr).add t = ⟨b, j + t, none⟩ by unfold Addr.add; split <;> simp_all]
  rw [hw.cell]
  have h1 := h.2
  rw [show 65 - ds.length = j by omega] at h1
  have h2 : (C.toList.drop j)[t]? = (ds.map bv)[t]? := by rw [h1]
  rw [List.getElem?_drop, Array.getElem?_toList] at h2
  rw [h2]
  simp [ht]
theorem alen65 : Tryd.prog.arrayLen 115 = 65 := by kernel_rfl
theorem dg_split {u q : Nat} {ds : List UInt8} (h : dg 16 u = dg 16 q ++ ds) (hq : ¬ q < 16) (hql : q ≤ 65535) : dg 16 u = dg 16 (q / 16) ++ dch (q % 16) :: ds := by
  have h1 := dg_step (b := 16) (w := q / 16) (d := q % 16) (.inr rfl) (by omega) (Nat.mod_lt _ (by omega)) (by unfold lim; simp; omega)
  rw [show q / 16 * 16 + q % 16 = q by omega] at h1
  rw [h, h1]
  simp
set_option maxRecDepth 100000 in
set_option maxHeartbeats 2000000 in
theorem bits_16 (u : Nat) (hu : u ≤ 65535) (w : World) (hT : Tz w) :
    Calls Tryd.prog 64 #[.slice none 0 0, .int .u64 (u : Int), .int .i64 16, .bool false, .bool false] w fun e w' => e = .returned (.tuple #[.slice none 0 0, .string ⟨(dg 16 u).toArray⟩]) ∧ Below w.heap.size w w' := by
  go_enter Tryd.func64, Tryd.ntmps64
  have b0 : Below w.heap.size w (w.alloc (.cells Tryd.zeroCells115 115)) := (Below.refl _ w).alloc (Nat.le_refl _) _
  have x0 := Whole.new w 115 Tryd.zeroCells115
  have hz : Tryd.zeroCells115.size = 65 := by kernel_rfl
  have hT1 := hT.below b0
  have hp := pow2_16 (w.alloc (.cells Tryd.zeroCells115 115))
  have ht := tz_16 _ hT1
  have hsz : w.heap.size < (w.alloc (.cells Tryd.zeroCells115 115)).heap.size := by simp
  have HT0 : Hid (Tail Tryd.zeroCells115 []) := ⟨hz, List.drop_eq_nil_of_le (by simp [hz])⟩
  go_wp2_with fail
  generalize Tryd.zeroCells115 = C0 at *
  generalize w.alloc (.cells C0 115) = w0 at *
  refine hp.mono ?_
  rintro e w1 ⟨rfl, rfl⟩
  go_wp2_with fail
  refine ht.mono ?_
  rintro e w1 ⟨rfl, rfl⟩
  go_wp2_with fail
  go_loopw [1, 13] (fun v i wr => ∃ (q k : Nat) (ds : List UInt8) (C : Array Value), v = .int .u64 q ∧ i = .int .i64 (k : Int) ∧ Hid (k + ds.length = 65) ∧ q ≤ u ∧ Hid (dg 16 u = dg 16 q ++ ds) ∧ Hid (Tail C ds) ∧ Whole wr w.heap.size 115 C ∧ Below w.heap.size w wr) (fun v _ _ => (intOf v).toNat)
  case atStart => exact ⟨u, 65, [], C0, rfl, rfl, rfl, Nat.le_refl _, by simp [Hid], HT0, x0, b0⟩
  case round =>
    obtain ⟨q, k, ds, C, rfl, rfl, hk, hqu, hdg, htl, hC, hbel⟩ := hrel
    have hdl : ds.length ≤ 4 := by
      have h1 : (dg 16 u).length ≤ 5 := by
        unfold dg
        simp only [digs]
        repeat' split
        all_goals simp
      have h2 : 1 ≤ (dg 16 q).length := List.length_pos_iff.2 (digs_ne 16 4 q)
      rw [hdg.out, List.length_append] at h1
      omega
    have hk' := hk.out
    have k1 : 61 ≤ k := by omega
    have k2 : k ≤ 65 := by omega
    clear hk'
    obtain ⟨j, rfl⟩ : ∃ j, k = j + 1 := ⟨k - 1, by omega⟩
    have j1 : ((j + 1 : Nat) : Int) - 1 = (j : Int) := by omega
    have hCs : C.size = 65 := htl.out.1
    have m15 : bits .and .u64 (q : Int) 15 = ((q % 16 : Nat) : Int) := by
      rw [show (15 : Int) = ((15 : Nat) : Int) from rfl, bits_and_u64_nat q 15 (by omega) (by omega), show (15 : Nat) = 2 ^ 4 - 1 from rfl, Nat.and_two_pow_sub_one_eq_mod]
    have hcell : ∃ x, wr.cell? ⟨w.heap.size, j, none⟩ = some x := by
      rw [hC.cell]
      exact ⟨_, Array.getElem?_eq_getElem (by omega)⟩
    have hfz := hC.frozen j
    have hsl1 : ∀ W, (Instr.sliceAt 115 (.pointer (some ⟨w.heap.size, 0, none⟩)) (some (.int .i64 (j : Int))) none none).run Tryd.prog W = .ok (.slice (some ⟨w.heap.size, j, none⟩) (65 - j) (65 - j)) W := fun W => by
      rw [run_sliceAt_array_l W 115 ⟨w.heap.size, 0, none⟩ (by kernel_rfl) .i64 (j : Int) (by omega) (by rw [alen65]; omega)]
      rw [alen65]
      go_simp
      omega
    obtain ⟨x, hcell⟩ := hcell
    by_cases hq : q < 16
    · have q1 : ¬ (16 : Int) ≤ (q : Int) := by omega
      go_wp2_with fail
      have h5 := hC.set_ j (bv (dch q))
      have h6 : Tail (C.setIfInBounds j (bv (dch q))) (dch q :: ds) := by
        have h7 := htl.out.push (by omega) (dch q)
        have h8 := hk.out
        rwa [show 64 - ds.length = j by omega] at h7
      have h7 := h6.string h5 (j := j) (by have h8 := hk.out; rw [List.length_cons]; omega) (65 - j)
      rw [show (dch q :: ds).length = 65 - j by have h8 := hk.out; rw [List.length_cons]; omega] at h7
      have h9 : ∀ V, V = bv (dch q) → (convert 24 9 (.slice (some ⟨w.heap.size, j, none⟩) (65 - j) (65 - j))).run Tryd.prog (wr.setCell ⟨w.heap.size, j, none⟩ V) = .ok (.string ⟨(dg 16 u).toArray⟩) (wr.setCell ⟨w.heap.size, j, none⟩ V) := by
        rintro V rfl
        rw [h7, hdg.out]
        congr 4
        unfold dg digs
        rw [if_pos hq]
        rfl
      rw [h9 _ (by rcases (by omega : q = 0 ∨ q = 1 ∨ q = 2 ∨ q = 3 ∨ q = 4 ∨ q = 5 ∨ q = 6 ∨ q = 7 ∨ q = 8 ∨ q = 9 ∨ q = 10 ∨ q = 11 ∨ q = 12 ∨ q = 13 ∨ q = 14 ∨ q = 15) with h | h | h | h | h | h | h | h | h | h | h | h | h | h | h | h <;> simp only [h] <;> kernel_rfl)]
      go_wp2_with fail
      go_ret2
      exact ⟨rfl, hbel.setCell (Nat.le_refl _) _⟩
    · have q1 : (16 : Int) ≤ (q : Int) := by omega
      go_wp2_with fail
      refine ⟨⟨q / 16, j, dch (q % 16) :: ds, C.setIfInBounds j (bv (dch (q % 16))), by simp, rfl, ?_, by omega, ?_, ?_, ?_, ?_⟩, ?_⟩
      · have h8 := hk.out
        exact (by rw [List.length_cons]; omega : j + (dch (q % 16) :: ds).length = 65)
      · exact dg_split hdg.out hq (by omega)
      · have h7 := htl.out.push (by omega) (dch (q % 16))
        have h8 := hk.out
        rwa [show 64 - ds.length = j by omega] at h7
      · have h5 := hC.set_ j (bv (dch (q % 16)))
        refine Eq.mp (congrArg (fun v => Whole (wr.setCell ⟨w.heap.size, j, none⟩ v) w.heap.size 115 (C.setIfInBounds j (bv (dch (q % 16))))) (?_ : bv (dch (q % 16)) = _)) h5
        have hx : q % 16 < 16 := Nat.mod_lt _ (by omega)
        obtain ⟨x, hx'⟩ : ∃ x, x = q % 16 := ⟨_, rfl⟩
        simp only [← hx']
        rw [← hx'] at hx
        rcases (by omega : x = 0 ∨ x = 1 ∨ x = 2 ∨ x = 3 ∨ x = 4 ∨ x = 5 ∨ x = 6 ∨ x = 7 ∨ x = 8 ∨ x = 9 ∨ x = 10 ∨ x = 11 ∨ x = 12 ∨ x = 13 ∨ x = 14 ∨ x = 15) with h | h | h | h | h | h | h | h | h | h | h | h | h | h | h | h <;> subst h <;> rfl
      · exact hbel.setCell (Nat.le_refl _) _
      · simp [intOf]
        omega
end Go.Proofs.YtemeeeiglifpaaaDoor

/- Layer 9: the text of a number (FormatUint), to the base 16, and to the base 10 below 100. -/

namespace Go.Proofs.YtemeeeiglifpaaaDoor
open Go.RowKit Go.Shelf

theorem format16_in (u : Nat) (hu : u ≤ 65535) (w : World) (hT : Tz w) :
    Calls Tryd.prog 46 #[.int .u64 (u : Int), .int .i64 16] w fun e w' => e = .returned (.string ⟨(dg 16 u).toArray⟩) ∧ Below w.heap.size w w' := by
  have h1 := bits_16 u hu w hT
  go_enter Tryd.func46, Tryd.ntmps46
  go_wp2_with fail
  refine h1.mono ?_
  rintro e w1 ⟨rfl, b1⟩
  go_wp2_with fail
  go_ret
  exact ⟨rfl, b1⟩
theorem format16 (u : Nat) (hu : u ≤ 65535) (w : World) (hT : Tz w) :
    Calls Tryd.prog 28 #[.int .u64 (u : Int), .int .i64 16] w fun e w' => e = .returned (.string ⟨(dg 16 u).toArray⟩) ∧ Below w.heap.size w w' := by
  have h1 := format16_in u hu w hT
  go_enter Tryd.func28, Tryd.ntmps28
  go_wp2_with fail
  refine h1.mono ?_
  rintro e w1 ⟨rfl, b1⟩
  go_wp2_with fail
  go_ret
  exact ⟨rfl, b1⟩
set_option maxRecDepth 100000 in
set_option maxHeartbeats 2000000 in
theorem small_any (n : Nat) (hn : n < 100) (w : World) :
    Calls Tryd.prog 61 #[.int .i64 (n : Int)] w fun e w' => e = .returned (.string ⟨(dg 10 n).toArray⟩) ∧ w = w' := by
  go_enter Tryd.func61, Tryd.ntmps61
  by_cases h : n < 10
  · have h1 : (n : Int) < 10 := by omega
    go_wp2_with fail
    go_ret
    refine ⟨congrArg (fun s => Ending.returned (.string s)) ?_, rfl⟩
    obtain ⟨m, hm⟩ : ∃ m, m = n := ⟨_, rfl⟩
    have h0 := h
    rw [← hm] at h0 ⊢
    clear hm
    revert h0
    revert m
    decide +kernel
  · have h1 : ¬ (n : Int) < 10 := by omega
    go_wp2_with fail
    go_ret
    refine ⟨congrArg (fun s => Ending.returned (.string s)) ?_, rfl⟩
    clear h1
    revert h
    revert hn
    revert n
    decide +kernel
theorem format10_small (u : Nat) (hu : u < 100) (w : World) :
    Calls Tryd.prog 28 #[.int .u64 (u : Int), .int .i64 10] w fun e w' => e = .returned (.string ⟨(dg 10 u).toArray⟩) ∧ w = w' := by
  have h2 : Calls Tryd.prog 46 #[.int .u64 (u : Int), .int .i64 10] w fun e w' => e = .returned (.string ⟨(dg 10 u).toArray⟩) ∧ w = w' := by
    have h1 := small_any u hu w
    have u1 : (u : Int) < 100 := by omega
    go_enter Tryd.func46, Tryd.ntmps46
    go_wp2_with fail
    refine h1.mono ?_
    rintro e w1 ⟨rfl, rfl⟩
    go_wp2_with fail
    go_ret
    exact ⟨rfl, rfl⟩
  go_enter Tryd.func28, Tryd.ntmps28
  go_wp2_with fail
  refine h2.mono ?_
  rintro e w1 ⟨rfl, rfl⟩
  go_wp2_with fail
  go_ret
  exact ⟨rfl, rfl⟩
end Go.Proofs.YtemeeeiglifpaaaDoor

/- Layer 9: the text of a number of an address (FormatUint): to the base 10 up to 255, to the base 16 up to 65535. It writes nothing that was there. -/


namespace Go.Proofs.YtemeeeiglifpaaaDoor
open Go.RowKit Go.Shelf

/-- the two cells of the library's tables that are read -/
def pwT : Nat → Nat := fun i => 10 ^ i
theorem nd3 (u : Nat) (h1 : 100 ≤ u) (h2 : u ≤ 255) : ndF pwT u = 3 ∧ ((fbF 0 3 u (List.replicate 24 0)).take 3) = dg 10 u := by
  revert h1
  revert h2
  revert u
  decide +kernel

set_option maxHeartbeats 4000000 in
set_option maxRecDepth 100000 in
theorem format10_great_in (u : Nat) (h1 : 100 ≤ u) (h2 : u ≤ 255) (w : World) (hT : Tab pwT w) :
    Calls Tryd.prog 46 #[.int .u64 (u : Int), .int .i64 10] w fun e w' => e = .returned (.string ⟨(dg 10 u).toArray⟩) ∧ Below w.heap.size w w' := by
  obtain ⟨h3, hdg⟩ := nd3 u h1 h2
  rw [← hdg]
  have hTa := hT.alloc (.cells (rowA (List.replicate 24 0)) 98)
  have hw0 := Whole.new w 98 (rowA (List.replicate 24 0))
  have hI : Inv 0 (fbF 0 3 u (List.replicate 24 0)) 3 3 u (List.replicate 24 0) := ⟨by rw [List.length_replicate]; omega, Nat.le_refl _, by omega, rfl⟩
  have hlr : (fbF 0 3 u (List.replicate 24 0)).length = 24 := by rw [fbF_len]; rfl
  have hN := numDigits_any pwT u (by omega) (by omega) _ hTa
  rw [h3] at hN
  have hF := format_any w.heap.size 0 24 3 u (List.replicate 24 0) (fbF 0 3 u (List.replicate 24 0)) _ hw0 hI (by omega) (by omega)
  generalize fbF 0 3 u (List.replicate 24 0) = R at hI hlr hF ⊢
  have HLR := Lib.hid hlr
  have HN := Lib.hid hN
  have HF := Lib.hid hF
  have u1 : ¬ (u : Int) < 100 := by omega
  clear hlr hI hN hF hw0 hTa hT h3 hdg
  have hsl1 : ∀ W, (Instr.sliceAt 98 (.pointer (some ⟨w.heap.size, 0, none⟩)) none (some (.int .i64 3)) none).run Tryd.prog W = .ok (.slice (some ⟨w.heap.size, 0, none⟩) 3 24) W := fun W => by
    kernel_rfl
  go_enter Tryd.func46, Tryd.ntmps46
  go_wp2_with fail
  rw [← zeros_row]
  refine HN.out.mono ?_
  rintro e w1 ⟨rfl, rfl⟩
  go_wp2_with fail
  refine HF.out.mono ?_
  rintro e w2 ⟨rfl, hwR, b2⟩
  have hbB : Below w.heap.size w w2 := ((Below.refl _ w).alloc (Nat.le_refl _) _).trans b2
  have hcv := hwR.string 0 3 24 (by rw [HLR.out]; omega)
  rw [List.drop_zero] at hcv
  go_wp2_with fail
  go_ret
  exact ⟨rfl, hbB⟩
theorem format10_great (u : Nat) (h1 : 100 ≤ u) (h2 : u ≤ 255) (w : World) (hT : Tab pwT w) :
    Calls Tryd.prog 28 #[.int .u64 (u : Int), .int .i64 10] w fun e w' => e = .returned (.string ⟨(dg 10 u).toArray⟩) ∧ Below w.heap.size w w' := by
  have h3 := format10_great_in u h1 h2 w hT
  go_enter Tryd.func28, Tryd.ntmps28
  go_wp2_with fail
  refine h3.mono ?_
  rintro e w1 ⟨rfl, b1⟩
  go_wp2_with fail
  go_ret
  exact ⟨rfl, b1⟩
/-- what the texts of numbers want of the library's tables -/
structure NumT (w : World) : Prop where
  tz : Tz w
  tab : Tab pwT w
theorem NumT.below {w w' : World} (h : NumT w) (hb : Below w.heap.size w w') : NumT w' := ⟨h.tz.below hb, h.tab.below hb h.tab.lt⟩
theorem fmt_any (b u : Nat) (hb : b = 10 ∨ b = 16) (hu : u ≤ lim b) (w : World) (hT : NumT w) :
    Calls Tryd.prog 28 #[.int .u64 (u : Int), .int .i64 (b : Int)] w fun e w' => e = .returned (.string ⟨(dg b u).toArray⟩) ∧ Below w.heap.size w w' := by
  rcases hb with rfl | rfl
  · unfold lim at hu
    rw [if_pos rfl] at hu
    by_cases h : u < 100
    · exact (format10_small u h w).mono fun e w' ⟨h1, h2⟩ => ⟨h1, by subst h2; exact Below.refl _ _⟩
    · exact format10_great u (by omega) hu w hT.tab
  · unfold lim at hu
    rw [if_neg (by omega)] at hu
    exact format16 u hu w hT.tz
end Go.Proofs.YtemeeeiglifpaaaDoor

/- Layer 9: the text of an address (Text). It writes nothing that was there. -/




namespace Go.Proofs.YtemeeeiglifpaaaDoor
open Go.RowKit Go.Shelf

/-! ### texts, word by word -/
theorem dg_ne (b n : Nat) : dg b n ≠ [] := digs_ne b 4 n
theorem txt_nil (b : Nat) (sg : UInt8) : txt b sg [] = [] := rfl
theorem txt_snoc (b : Nat) (sg : UInt8) (l : List Nat) (w : Nat) : txt b sg (l ++ [w]) = txt b sg l ++ (if txt b sg l = [] then [] else [sg]) ++ dg b w := by
  cases l with
  | nil => simp [txt]
  | cons x l =>
    have h1 : ∀ k, txt b sg (x :: k) = dg b x ++ stx b sg k := fun k => by simp [txt, stx]
    have h2 : ¬ txt b sg (x :: l) = [] := by rw [h1]; simp [dg_ne]
    rw [if_neg h2, List.cons_append, h1, h1, stx_snoc]
    simp
def attx (n : Nd) : List UInt8 := if nof n = 2 then [] else atx n.t n.v
theorem prs_at : ∀ (k : Nat) (v : List UInt8), v.length = 2 * k → ∀ j, j < k → (prs v)[j]? = some (numOf ((v.drop (j * 2)).take 2)) := by
  intro k
  induction k with
  | zero => intro v _ j hj; omega
  | succ k ih =>
    intro v h j hj
    match v, h with
    | [], h => simp at h
    | [a], h => simp at h; omega
    | a :: b :: l, h =>
      rw [prs]
      cases j with
      | zero =>
        simp only [List.getElem?_cons_zero, Nat.zero_mul, List.drop_zero, List.take_succ_cons, List.take_zero, numOf_pair]
        congr 1; omega
      | succ j =>
        rw [List.getElem?_cons_succ, ih l (by simp at h; omega) j (by omega), show (j + 1) * 2 = j * 2 + 2 by omega]
        rfl
theorem nums_two (v : List UInt8) (h : v.length = 16) : (nums 2 v).map (·.toNat) = prs v := by
  apply List.ext_getElem?
  intro j
  by_cases hj : j < 8
  · rw [prs_at 8 v (by omega) j hj, List.getElem?_map, nums, List.getElem?_map, List.getElem?_range (by omega)]
    show some (numAt 2 v j).toNat = _
    rw [numAt_toNat]
  · rw [List.getElem?_eq_none (by simp [nums]; omega), List.getElem?_eq_none (by rw [prs_len 8 v (by omega)]; omega)]
theorem nums_one (v : List UInt8) : (nums 1 v).map (·.toNat) = v.map (·.toNat) := by
  apply List.ext_getElem?
  intro j
  by_cases hj : j < v.length
  · rw [List.getElem?_map, nums, List.getElem?_map, List.getElem?_range (by omega), List.getElem?_map, List.getElem?_eq_getElem hj]
    show some (numAt 1 v j).toNat = _
    rw [numAt_toNat, Nat.mul_one, List.drop_eq_getElem_cons hj, List.take_succ_cons, List.take_zero, numOf_one]
    rfl
  · rw [List.getElem?_eq_none (by simp [nums]; omega), List.getElem?_eq_none (by simp; omega)]

theorem builder_below {T e : TypeId} {B b : Nat} {bs : List Value} {W W' : World} (h : Lib.IsBuilderF T e B b bs W) (hb : Below W.heap.size W W') : Lib.IsBuilderF T e B b bs W' := by
  have h1 : ∀ p, Lib.BuilderAtF T e B b p bs W → Lib.BuilderAtF T e B b p bs W' := fun p h => by
    have hlt := h.lt
    obtain ⟨hB, v, hv, hown, hne⟩ := h
    exact ⟨hB, v, (hb.block b hlt).trans hv, hown.kept (row := none) ⟨hb.os, hb.tape, hb.output, hb.size, fun k hk _ => hb.block k hk⟩ (Classical.em _), hne⟩
  exact h.elim (fun x => .inl (h1 _ x)) (fun x => .inr (h1 _ x))
/-- what the addresses' texts want of the tables -/
structure AT (w : World) : Prop where
  tbl : Tbl w
  num : NumT w
theorem AT.below {w w' : World} (h : AT w) (hb : Below w.heap.size w w') : AT w' := ⟨h.tbl.below hb, h.num.below hb⟩
theorem whole_below {w w' : World} {g B : Nat} {t : TypeId} {cs : Array Value} (h : Whole w g t cs) (hb : Below B w w') (hg : g < B) : Whole w' g t cs := h.below hb hg

set_option maxRecDepth 100000 in
set_option maxHeartbeats 4000000 in
theorem text_none (n : Nd) (A : Option Addr) (c : Nat) (K : Option Addr) (k : Nat) (w : World) (hT : AT w) (hl : n.v.length ≤ 9223372036854775807) (hk : n.ks.length ≤ 9223372036854775807) (h2 : nof n = 2) :
    Calls Tryd.prog 10 #[ndV n A c K k] w fun e w' => e = .returned (.string ⟨#[]⟩) ∧ Below w.heap.size w w' := by
  have b0 : Below w.heap.size w (w.alloc (.cells #[hv n.t, .slice A n.v.length c, .slice K n.ks.length k] 27)) := (Below.refl _ w).alloc (Nat.le_refl _) _
  have hN := not_any n A c K k _ (hT.tbl.below b0) hl hk
  rw [h2] at hN
  simp only [notV] at hN
  have HB := Lib.hid b0
  clear b0 h2
  unfold ndV at *
  go_enter Tryd.func10, Tryd.ntmps10
  go_wp2_with fail
  refine hN.mono ?_
  rintro e w1 ⟨rfl, b1⟩
  have hfin := (HB.out.trans (b1.mono HB.out.size))
  have hfin2 := hfin.size
  go_wp2_with (first | (refine wpList_new_nt rfl 44 _ _ rfl w1 _ _ rfl rfl rfl (by kernel_rfl) rfl ?_))
  go_ret
  exact ⟨rfl, hfin.alloc hfin2 _⟩

/-- the numbers of a text -/
def wsOf (k : Nat) (v : List UInt8) : List Nat := (nums k v).map (·.toNat)
set_option maxRecDepth 100000 in
set_option maxHeartbeats 8000000 in
theorem text_some (n : Nd) (A : Option Addr) (c : Nat) (K : Option Addr) (kk : Nat) (w : World) (hT : AT w) (hA : Lies w w.heap.size A (n.v.map bv)) (hc : n.v.length ≤ c) (hk : n.ks.length ≤ 9223372036854775807)
    (t s x b : Nat) (sg : UInt8) (m : Nat) (hb : b = 10 ∨ b = 16) (hx : widthB x = true) (hlen : n.v.length = m * x) (hm0 : 0 < m) (hm8 : m ≤ 8) (hx2 : x ≤ 2) (hlim : ∀ j, j < m → (numAt x n.v j).toNat ≤ lim b)
    (hnot : notV (nof n) = .tuple #[.agg #[.int .u16 (t : Int), .int .i64 (s : Int), .int .i64 (x : Int), .int .i64 (b : Int), .string ⟨#[sg]⟩], .bool true]) :
    Calls Tryd.prog 10 #[ndV n A c K kk] w fun e w' => e = .returned (.string ⟨(txt b sg (wsOf x n.v)).toArray⟩) ∧ Below w.heap.size w w' := by
  have hx0 : 0 < x := by rcases Nat.eq_zero_or_pos x with rfl | h; (simp [widthB] at hx); exact h
  have hmx : m * x ≤ 16 := Nat.mul_le_mul hm8 hx2
  have b0 : Below w.heap.size w (w.alloc (.cells #[hv n.t, .slice A n.v.length c, .slice K n.ks.length kk] 27)) := (Below.refl _ w).alloc (Nat.le_refl _) _
  have hN := not_any n A c K kk _ (hT.tbl.below b0) (by omega) hk
  rw [hnot] at hN
  have hdiv : n.v.length / x = m := by rw [hlen]; exact Nat.mul_div_cancel _ hx0
  have hmod : n.v.length % x = 0 := by rw [hlen]; exact Nat.mul_mod_left _ _
  have x0 := Whole.new w 27 #[hv n.t, .slice A n.v.length c, .slice K n.ks.length kk]
  have hA0 := hA.below b0
  have HT := Lib.hid hT
  have HLIM := Lib.hid hlim
  have HMX := Lib.hid hmx
  have hl16 : n.v.length ≤ 16 := by omega
  have hNum : ∀ w3 : World, Lies w3 w3.heap.size A (n.v.map bv) → Calls Tryd.prog 27 #[.int .i64 (x : Int), .slice A n.v.length c] w3 fun e w' => ∃ A' c', e = .returned (.slice A' m c') ∧
      w'.ownsRow w3.heap.size 63 1 (.slice A' m c') m ((nums x n.v).map uv) ∧ Below w3.heap.size w3 w' := fun w3 h3 => by
    have := numbersF_any x hx A c n.v w3 h3 hmod (by omega) hc
    rwa [hdiv] at this
  have hwl : (nums x n.v).length = m := by rw [nums_len, hdiv]
  have hwat : ∀ j, j < m → (nums x n.v)[j]? = some (numAt x n.v j) := fun j hj => by unfold nums; rw [List.getElem?_map, List.getElem?_range (by omega)]; rfl
  have HWAT := Lib.hid hwat
  have hst : ∀ j, j < m → txt b sg ((wsOf x n.v).take (j + 1)) = txt b sg ((wsOf x n.v).take j) ++ (if txt b sg ((wsOf x n.v).take j) = [] then [] else [sg]) ++ dg b (numAt x n.v j).toNat := fun j hj => by
    rw [← txt_snoc]
    congr 1
    exact take_some (by unfold wsOf; rw [List.getElem?_map, hwat j hj]; rfl)
  have hfull : (wsOf x n.v).take m = wsOf x n.v := List.take_of_length_le (by unfold wsOf; rw [List.length_map, hwl]; exact Nat.le_refl _)
  have htl : ∀ j, j ≤ m → (txt b sg ((wsOf x n.v).take j)).length ≤ 6 * j := by
    have hd5 : ∀ f u, (digs b f u).length ≤ f + 1 := by
      intro f
      induction f with
      | zero => intro u; simp [digs]
      | succ f ih =>
        intro u
        rw [digs]
        split
        · simp
        · rw [List.length_append]; have := ih (u / b); simp; omega
    intro j
    induction j with
    | zero => intro _; rw [List.take_zero, txt_nil]; simp
    | succ j ih =>
      intro hj
      rw [hst j (by omega), List.length_append, List.length_append]
      have h1 := ih (by omega)
      have h2 : (if txt b sg ((wsOf x n.v).take j) = [] then ([] : List UInt8) else [sg]).length ≤ 1 := by split <;> simp
      have h3 : (dg b (numAt x n.v j).toNat).length ≤ 5 := hd5 4 _
      omega
  have HST := Lib.hid hst
  have HFULL := Lib.hid hfull
  have HTL := Lib.hid htl
  have HLEN := Lib.hid hlen
  clear hst hfull htl hwat hlim hT hmod hdiv hnot hA hmx hwl hlen
  generalize wsOf x n.v = ws at *
  have HB := Lib.hid b0
  clear b0
  unfold ndV at *
  go_enter Tryd.func10, Tryd.ntmps10
  go_wp2_with fail
  refine hN.mono ?_
  rintro e w1 ⟨rfl, b1⟩
  have hfin := (HB.out.trans (b1.mono HB.out.size))
  have hfin2 := hfin.size
  have y0 := x0.below b1 x0.lt
  have hA1 := (hA0.below (b1.mono HB.out.size)).more hfin2
  have q1 : ∀ o1 o2, ((w1.alloc o1).alloc o2).cell? ⟨w.heap.size, 1, none⟩ = some (.slice A n.v.length c) := fun o1 o2 => ((y0.alloc o1).alloc o2).cell 1
  clear x0 hA0 b1 hN y0
  go_wp2_with (first | (refine wpList_new_nt rfl 44 _ _ rfl w1 _ _ rfl rfl rfl (by kernel_rfl) rfl ?_))
  have z0 := (Whole.new w1 44 #[.int .u16 (t : Int), .int .i64 (s : Int), .int .i64 (x : Int), .int .i64 (b : Int), .string ⟨#[sg]⟩]).alloc (.cells #[.pointer none, .slice none 0 0] 54)
  have z1 : Lib.IsBuilderF 54 5 (w1.heap.size + 1) (w1.heap.size + 1) (Lib.byteCells []) ((w1.alloc (.cells #[.int .u16 (t : Int), .int .i64 (s : Int), .int .i64 (x : Int), .int .i64 (b : Int), .string ⟨#[sg]⟩] 44)).alloc (.cells #[.pointer none, .slice none 0 0] 54)) := by
    refine .inl ⟨Nat.le_refl _, .slice none 0 0, ?_, World.ownsRowF_of (World.ownsRow_nil _ _ _ _), by simp [Value.ownBlock]⟩
    have := heap_alloc_new (w1.alloc (.cells #[.int .u16 (t : Int), .int .i64 (s : Int), .int .i64 (x : Int), .int .i64 (b : Int), .string ⟨#[sg]⟩] 44)) (.cells #[.pointer none, .slice none 0 0] 54)
    rwa [World.size_alloc] at this
  have hb2 := (hfin.alloc hfin2 (.cells #[.int .u16 (t : Int), .int .i64 (s : Int), .int .i64 (x : Int), .int .i64 (b : Int), .string ⟨#[sg]⟩] 44)).alloc (by simp; omega) (.cells #[.pointer none, .slice none 0 0] 54)
  have hA2 := (hA1.alloc (Nat.le_refl _) (.cells #[.int .u16 (t : Int), .int .i64 (s : Int), .int .i64 (x : Int), .int .i64 (b : Int), .string ⟨#[sg]⟩] 44)).alloc (by simp) (.cells #[.pointer none, .slice none 0 0] 54)
  have hs2 : ((w1.alloc (.cells #[.int .u16 (t : Int), .int .i64 (s : Int), .int .i64 (x : Int), .int .i64 (b : Int), .string ⟨#[sg]⟩] 44)).alloc (.cells #[.pointer none, .slice none 0 0] 54)).heap.size = w1.heap.size + 2 := by simp
  generalize (w1.alloc (.cells #[.int .u16 (t : Int), .int .i64 (s : Int), .int .i64 (x : Int), .int .i64 (b : Int), .string ⟨#[sg]⟩] 44)).alloc (.cells #[.pointer none, .slice none 0 0] 54) = w2 at *
  refine (hNum w2 (hA2.more (by omega))).mono ?_
  rintro e w3 ⟨A', c', rfl, own3, b3⟩
  obtain ⟨g', cap, cur, rfl, hg'⟩ : ∃ g' cap, ∃ cur : Array Value, A' = some ⟨g', 0, none⟩ ∧ Whole w3 g' 63 cur ∧ cap = cap := by
    rcases own3.2 with ⟨h1, h2⟩ | ⟨g, cap, cur, h1, h2, h3, _⟩
    · exact absurd h2 (by omega)
    · simp only [Value.slice.injEq] at h1
      exact ⟨g, cap, cur, h1.1, h3, rfl⟩
  obtain ⟨hg3, _⟩ := hg'
  have hcur : ∀ j, j < m → cur[j]? = some (.int .u32 ((numAt x n.v j).toNat : Int)) := fun j hj => by
    have h1 := own3.cells (g := g') rfl j (uv (numAt x n.v j)) (by rw [List.getElem?_map, HWAT.out j hj]; rfl)
    rw [add_row, hg3.cell] at h1
    exact h1
  have HCUR := Lib.hid hcur
  have hgb : w2.heap.size ≤ g' := (own3.lt g' rfl).1
  have z3 := z0.below (b3.mono (Nat.le_refl _)) z0.lt
  have z4 := builder_below z1 b3
  have hb3 : Below w.heap.size w w3 := hb2.trans (b3.mono hb2.size)
  have hlt3 : w1.heap.size + 2 ≤ w3.heap.size := by have := b3.size; omega
  have q3 := z3.cell 3
  simp only [List.getElem?_toArray, List.getElem?_cons_zero, List.getElem?_cons_succ] at q3
  clear q1 z0 z1 hb2 hA2 hA1 own3 b3 hcur hfin hNum
  go_wp2_with fail
  go_loopw [23] (fun i wr => ∃ j : Nat, j ≤ m ∧ i = .int .i64 j ∧ Hid (Lib.IsBuilderF 54 5 (w1.heap.size + 1) (w1.heap.size + 1) (Lib.byteCells (txt b sg (ws.take j))) wr) ∧
      Hid (Whole wr g' 63 cur) ∧ Hid (Whole wr w1.heap.size 44 #[.int .u16 (t : Int), .int .i64 (s : Int), .int .i64 (x : Int), .int .i64 (b : Int), .string ⟨#[sg]⟩]) ∧ Below w.heap.size w wr ∧ w1.heap.size + 2 ≤ wr.heap.size) (fun i _ => m - (intOf i).toNat)
  case atStart => exact ⟨0, Nat.zero_le _, rfl, by rw [List.take_zero, txt_nil]; exact z4, hg3, z3, hb3, hlt3⟩
  case round =>
    obtain ⟨j, hj, rfl, hbu, hgw, hnt, hbel, hsz⟩ := hrel
    have r3 := hnt.out.cell 3
    simp only [List.getElem?_toArray, List.getElem?_cons_zero, List.getElem?_cons_succ] at r3
    by_cases hlt : j < m
    · have r4 := hgw.out.cell j
      rw [HCUR.out j hlt] at r4
      have hF := fmt_any b (numAt x n.v j).toNat hb (HLIM.out j hlt) wr ((HT.out.below hbel).num)
      have HD := Lib.hid (HST.out j hlt)
      have HL := Lib.hid (HTL.out j hj)
      have hu1 : ((numAt x n.v j).toNat : Int) < 4294967296 := by have := (numAt x n.v j).toNat_lt; omega
      generalize (numAt x n.v j).toNat = u at *
      go_wp2_with fail
      refine hF.mono ?_
      rintro e w5 ⟨rfl, b5⟩
      have hbu5 := builder_below hbu.out b5
      have hgw5 := hgw.out.below b5 hgw.out.lt
      have hnt5 := hnt.out.below b5 hnt.out.lt
      have hb5 := hbel.trans (b5.mono hbel.size)
      have hs5 := b5.size
      have hdl : (dg b u).length ≤ 5 := by
        have hd5 : ∀ f u, (digs b f u).length ≤ f + 1 := by
          intro f
          induction f with
          | zero => intro u; simp [digs]
          | succ f ih =>
            intro u
            rw [digs]
            split
            · simp
            · rw [List.length_append]; have := ih (u / b); simp; omega
        exact hd5 4 u
      have hC := text1_any (w1.heap.size + 1) (w1.heap.size + 1) w1.heap.size (txt b sg (ws.take j)) t s x b ⟨#[sg]⟩ ⟨(dg b u).toArray⟩ w5 hbu5 hnt5 (by have := HL.out; simp [ByteArray.size]; omega) (by omega)
      have hsep : sepB (txt b sg (ws.take j)) ⟨#[sg]⟩ ⟨(dg b u).toArray⟩ = txt b sg (ws.take (j + 1)) := by
        rw [HD.out]
        rfl
      rw [hsep] at hC
      go_wp2_with fail
      refine hC.mono ?_
      rintro e w6 ⟨rfl, hbu6, b6, k6⟩
      have hgw6 : Whole w6 g' 63 cur := k6 g' _ hgw5 (by intro e; have := Option.some.inj e; omega) (by intro c fz e; cases e)
      have hnt6 := hnt5.below b6 (by omega)
      have hb6 := hb5.trans (b6.mono (by omega))
      have hs6 := b6.size
      go_wp2_with fail
      go_roundw
      case rel => exact ⟨j + 1, by omega, by go_num, hbu6, hgw6, hnt6, hb6, by omega⟩
      case measure => simp [intOf]; omega
    · obtain rfl : j = m := by omega
      have hS := Tryd.Builder_String_any_k (w1.heap.size + 1) (w1.heap.size + 1) (txt b sg (ws.take j)) wr hbu.out (by omega)
      rw [HFULL.out] at hS
      go_wp2_with fail
      refine hS.mono ?_
      rintro e w7 ⟨rfl, _, b7, _⟩
      go_wp2_with fail
      go_ret
      exact ⟨rfl, hbel.trans (b7.mono (by omega))⟩
theorem numOf_le2 {l : List UInt8} (h : l.length ≤ 2) : numOf l < 65536 := by
  match l, h with
  | [], _ => simp [numOf]
  | [a], _ => have := a.toNat_lt; simp [numOf, numStep]; omega
  | [a, b], _ => have := a.toNat_lt; have := b.toNat_lt; simp [numOf, numStep]; omega
  | _ :: _ :: _ :: _, h => simp at h
theorem nof_cases (n : Nd) : (nof n = 0 ∧ n.t = 5 ∧ n.v.length = 4 ∧ n.ks = []) ∨ (nof n = 1 ∧ n.t = 6 ∧ n.v.length = 16 ∧ n.ks = []) ∨ nof n = 2 := by
  unfold nof fitA
  by_cases h1 : n.t = 5
  · by_cases h2 : n.v.length = 4
    · by_cases h3 : n.ks.length = 0
      · left; exact ⟨by simp [h1, h2, h3], h1, h2, List.eq_nil_of_length_eq_zero h3⟩
      · right; right; simp [h3]
    · right; right; simp [h1, h2]
  · by_cases h1 : n.t = 6
    · by_cases h2 : n.v.length = 16
      · by_cases h3 : n.ks.length = 0
        · right; left; exact ⟨by simp [h1, h2, h3], h1, h2, List.eq_nil_of_length_eq_zero h3⟩
        · right; right; simp [h3]
      · right; right; simp [h1, h2]
    · right; right; simp [*]
theorem text_any (n : Nd) (A : Option Addr) (c : Nat) (K : Option Addr) (k : Nat) (w : World) (hT : AT w) (hA : Lies w w.heap.size A (n.v.map bv)) (hc : n.v.length ≤ c) (hl : n.v.length ≤ 9223372036854775807) (hk : n.ks.length ≤ 9223372036854775807) :
    Calls Tryd.prog 10 #[ndV n A c K k] w fun e w' => e = .returned (.string ⟨(attx n).toArray⟩) ∧ Below w.heap.size w w' := by
  rcases nof_cases n with ⟨h0, h1, h2, _⟩ | ⟨h0, h1, h2, _⟩ | h0
  · have := text_some n A c K k w hT hA hc hk 5 4 1 10 46 4 (.inl rfl) rfl (by omega) (by omega) (by omega) (by omega) (fun j hj => by
      rw [numAt_toNat, Nat.mul_one, List.drop_eq_getElem_cons (by omega), List.take_succ_cons, List.take_zero, numOf_one]
      have := (n.v[j]'(by omega)).toNat_lt
      show _ ≤ 255; omega) (by rw [h0]; rfl)
    rwa [show attx n = txt 10 46 (wsOf 1 n.v) by unfold attx; rw [if_neg (by omega)]; unfold atx wsOf; rw [if_pos h1, nums_one]]
  · have := text_some n A c K k w hT hA hc hk 6 16 2 16 58 8 (.inr rfl) rfl (by omega) (by omega) (by omega) (by omega) (fun j hj => by
      rw [numAt_toNat]
      have := numOf_le2 (l := (n.v.drop (j * 2)).take 2) (by rw [List.length_take]; omega)
      show _ ≤ 65535; omega) (by rw [h0]; rfl)
    rwa [show attx n = txt 16 58 (wsOf 2 n.v) by unfold attx; rw [if_neg (by omega)]; unfold atx wsOf; rw [if_neg (by rw [h1]; decide), nums_two _ h2]]
  · have := text_none n A c K k w hT hl hk h0
    rwa [show attx n = [] by unfold attx; rw [if_pos h0]]
end Go.Proofs.YtemeeeiglifpaaaDoor

/- Layer 9: strings.SplitN at a mark of one byte: the words of a string. It writes nothing that was there. -/




namespace Go.Proofs.YtemeeeiglifpaaaDoor
open Go.RowKit Go.Shelf

/-! ### the words -/
/-- the first words, at most k marks are looked for -/
def sp : Nat → UInt8 → List UInt8 → List (List UInt8)
  | 0, _, l => [l]
  | k + 1, c, l => if Lib.indexByte l c < 0 then [l] else l.take (Lib.indexByte l c).toNat :: sp k c (l.drop ((Lib.indexByte l c).toNat + 1))
theorem sp_zero (c : UInt8) (l : List UInt8) : sp 0 c l = [l] := rfl
theorem sp_none {k : Nat} {c : UInt8} {l : List UInt8} (h : Lib.indexByte l c < 0) : sp k c l = [l] := by
  cases k with
  | zero => rfl
  | succ k => rw [sp, if_pos h]
theorem sp_some {k : Nat} {c : UInt8} {l : List UInt8} {m : Nat} (h : Lib.indexByte l c = m) : sp (k + 1) c l = l.take m :: sp k c (l.drop (m + 1)) := by
  rw [sp, if_neg (by omega), h]
  simp
theorem sp_len (c : UInt8) : ∀ (k : Nat) (l : List UInt8), (sp k c l).length ≤ k + 1 := by
  intro k
  induction k with
  | zero => intro l; simp [sp]
  | succ k ih =>
    intro l
    rw [sp]
    split
    · simp
    · have := ih (l.drop ((Lib.indexByte l c).toNat + 1)); simp; omega
theorem index_append {c : UInt8} {a b : List UInt8} (h : c ∉ a) : Lib.indexByte (a ++ c :: b) c = a.length := by
  induction a with
  | nil => simp [Lib.indexByte]
  | cons x a ih =>
    have hx : ¬ x = c := fun e => h (by simp [e])
    have h1 := ih (fun e => h (List.mem_cons_of_mem _ e))
    rw [List.cons_append, Lib.indexByte, if_neg (by simpa using hx), h1, if_neg (by simp)]
    simp
theorem index_none {c : UInt8} {a : List UInt8} (h : c ∉ a) : Lib.indexByte a c = -1 := by
  induction a with
  | nil => rfl
  | cons x a ih =>
    have hx : ¬ x = c := fun e => h (by simp [e])
    rw [Lib.indexByte, if_neg (by simpa using hx), ih (fun e => h (List.mem_cons_of_mem _ e))]
    rfl
theorem dg_mark {b : Nat} (hb : b = 10 ∨ b = 16) {sg : UInt8} (hsg : sg = 46 ∨ sg = 58) {w : Nat} (hw : w ≤ lim b) : sg ∉ dg b w := by
  intro h
  obtain ⟨d, hd, e⟩ := digs_chars (b := b) (by omega) (by omega) 4 w (by rcases hb with rfl | rfl <;> (unfold lim at hw; simp at hw; omega)) sg h
  have := dch_ne_sign (d := d) (by omega)
  rcases hsg with rfl | rfl
  · exact this.1 e.symm
  · exact this.2 e.symm
/-- the words of a text -/
theorem sp_txt {b : Nat} (hb : b = 10 ∨ b = 16) {sg : UInt8} (hsg : sg = 46 ∨ sg = 58) : ∀ (ws : List Nat) (w k : Nat), (∀ x ∈ w :: ws, x ≤ lim b) → ws.length ≤ k → sp k sg (txt b sg (w :: ws)) = (w :: ws).map (dg b) := by
  intro ws
  induction ws with
  | nil =>
    intro w k hw _
    have h1 : txt b sg [w] = dg b w := by simp [txt]
    rw [h1, sp_none (by rw [index_none (dg_mark hb hsg (hw w (by simp)))]; decide)]
    rfl
  | cons x ws ih =>
    intro w k hw hk
    have h1 : txt b sg (w :: x :: ws) = dg b w ++ sg :: txt b sg (x :: ws) := by simp [txt]
    obtain ⟨k, rfl⟩ : ∃ k', k = k' + 1 := ⟨k - 1, by simp at hk; omega⟩
    rw [h1, sp_some (index_append (dg_mark hb hsg (hw w (by simp))))]
    rw [List.take_left' rfl, show (dg b w ++ sg :: txt b sg (x :: ws)).drop ((dg b w).length + 1) = txt b sg (x :: ws) by rw [List.drop_append]; simp]
    rw [ih x k (fun y hy => hw y (List.mem_cons_of_mem _ hy)) (by simpa using hk)]
    rfl

/-! ### a row of strings -/
def sV (l : List UInt8) : Value := .string ⟨l.toArray⟩
theorem ba_ext {s : ByteArray} {l : List UInt8} (h : s.data.toList = l) : s = ⟨l.toArray⟩ := by
  subst h; rfl
theorem ext_take {s : ByteArray} {l : List UInt8} (h : s.data.toList = l) (m : Nat) : (s.extract 0 m).data.toList = l.take m := by
  subst h
  rw [ByteArray.data_extract, Array.toList_extract]
  simp
theorem ext_drop {s : ByteArray} {l : List UInt8} (h : s.data.toList = l) (m : Nat) : (s.extract m s.size).data.toList = l.drop m := by
  subst h
  have hs : s.size = s.data.toList.length := by rw [Array.length_toList]; rfl
  rw [ByteArray.data_extract, Array.toList_extract, List.extract_eq_take_drop, List.take_of_length_le (by rw [List.length_drop]; omega)]
theorem own_wholeS {w : World} {base e g n : Nat} {xs : List Value} (h : w.ownsRow base e 1 (.slice (some ⟨g, 0, none⟩) n n) n xs) : Whole w g e xs.toArray := by
  rcases h.2 with ⟨h1, _⟩ | ⟨g', cap, cur, h1, h2, h3, _, _, h6, h7⟩
  · simp at h1
  · simp only [Value.slice.injEq, Option.some.injEq, Addr.mk.injEq, and_true, true_and] at h1
    obtain ⟨rfl, rfl⟩ := h1
    rw [List.take_of_length_le (by simp; omega)] at h7
    subst h7
    exact h3
theorem strinfo : (Tryd.prog.info? 9).map (fun i => (i.zero, i.size, i.bytes)) = some (some (.string ⟨#[]⟩), 1, 16) := by kernel_rfl
theorem wpList_make_s (w : World) {ops : Array Oper} {rest : List Oper} {o : Oper} {a : Act} {Q : Exit → Act → World → Prop}
    (hg : o.guard = none) (l c : Operand) (hop : o.op = Op.makeSlice 76 l c)
    (L : Int) (n : Nat) (hl : a.eval l = .int .i64 L) (hc : a.eval c = .int .i64 L) (hL : L = (n : Int)) (hn : n ≤ 10000000)
    (hK : ∀ w', Whole w' w.heap.size 9 (Array.replicate n (.string ⟨#[]⟩)) → Below w.heap.size w w' → wpList Tryd.prog ops Q rest (a.put o.dst (.slice (some ⟨w.heap.size, 0, none⟩) n n)) w') :
    wpList Tryd.prog ops Q (o :: rest) a w := by
  obtain ⟨i0, hi, hz0, hz1, hz2⟩ := info_parts strinfo
  refine wpList_make_full w hg l c 76 hop w.heap.size 9 i0 (.string ⟨#[]⟩) 1 Tryd.underlying76 hi hz0 hz1 .i64 .i64 L L n hl hc hL hL (by rw [hz2]; omega) (by unfold maxLen; omega) (Nat.le_refl _) ?_
  intro w' hown hgrow
  refine hK w' ?_ ((Below.refl _ w).grown hgrow (Nat.le_refl _) (by simp))
  have h1 := own_wholeS hown
  simpa [Whole, toList_madeCells_one, Value.cells] using h1

/-- the row while it fills with words -/
structure Fill (c : UInt8) (F : Nat) (l : List UInt8) (i : Nat) (r : List UInt8) (cs : Array Value) : Prop where
  eq : ∃ done : List (List UInt8), done.length = i ∧ sp F c l = done ++ sp (F - i) c r ∧ ∀ (j : Nat) (x : List UInt8), done[j]? = some x → cs[j]? = some (sV x)
  size : cs.size = F + 1
  le : i ≤ F
theorem Fill.zero (c : UInt8) (F : Nat) (l : List UInt8) : Fill c F l 0 l (Array.replicate (F + 1) (.string ⟨#[]⟩)) := ⟨⟨[], rfl, rfl, fun j x h => by simp at h⟩, by simp, Nat.zero_le _⟩
theorem Fill.step {c : UInt8} {F : Nat} {l r : List UInt8} {i m : Nat} {cs : Array Value} (h : Fill c F l i r cs) (hi : i < F) (hm : Lib.indexByte r c = m) : Fill c F l (i + 1) (r.drop (m + 1)) (cs.setIfInBounds i (sV (r.take m))) := by
  obtain ⟨⟨done, h1, h2, h3⟩, h4, h5⟩ := h
  refine ⟨⟨done ++ [r.take m], by simp [h1], ?_, fun j x hj => ?_⟩, by simpa using h4, hi⟩
  · rw [h2, show F - i = (F - (i + 1)) + 1 by omega, sp_some hm]; simp
  · rw [Array.getElem?_setIfInBounds]
    by_cases hji : i = j
    · subst hji
      rw [if_pos rfl, if_pos (by omega)]
      rw [List.getElem?_append_right (by omega), h1, Nat.sub_self] at hj
      simp only [List.getElem?_cons_zero, Option.some.injEq] at hj
      rw [hj]
    · rw [if_neg hji]
      rw [List.getElem?_append] at hj
      split at hj
      · exact h3 j x hj
      · rw [List.getElem?_eq_none (by simp; omega)] at hj; cases hj
theorem Fill.last {c : UInt8} {F : Nat} {l r : List UInt8} {i : Nat} {cs : Array Value} (h : Fill c F l i r cs) (hr : sp (F - i) c r = [r]) : (sp F c l).length = i + 1 ∧ ∀ (j : Nat) (x : List UInt8), (sp F c l)[j]? = some x → (cs.setIfInBounds i (sV r))[j]? = some (sV x) := by
  obtain ⟨⟨done, h1, h2, h3⟩, h4, h5⟩ := h
  rw [h2, hr]
  refine ⟨by simp [h1], fun j x hj => ?_⟩
  rw [Array.getElem?_setIfInBounds]
  by_cases hji : i = j
  · subst hji
    rw [if_pos rfl, if_pos (by omega)]
    rw [List.getElem?_append_right (by omega), h1, Nat.sub_self] at hj
    simp only [List.getElem?_cons_zero, Option.some.injEq] at hj
    rw [hj]
  · rw [if_neg hji]
    rw [List.getElem?_append] at hj
    split at hj
    · exact h3 j x hj
    · rw [List.getElem?_eq_none (by simp; omega)] at hj; cases hj
/-- what is handed back: words in a row of its own -/
def Words (w : World) (L : List (List UInt8)) (e : Ending) (w' : World) : Prop :=
  ∃ g cap, ∃ cs : Array Value, e = .returned (.slice (some ⟨g, 0, none⟩) L.length cap) ∧ w.heap.size ≤ g ∧ Whole w' g 9 cs ∧ (∀ (j : Nat) (x : List UInt8), L[j]? = some x → cs[j]? = some (sV x)) ∧ Below w.heap.size w w'

set_option maxRecDepth 100000 in
set_option maxHeartbeats 4000000 in
theorem splitA_any (c : UInt8) (n : Nat) (hn : 1 ≤ n) (hn2 : n ≤ 100) (s : ByteArray) (hs : s.size ≤ 1000) (w : World) :
    Calls Tryd.prog 55 #[.string s, .string ⟨#[c]⟩, .int .i64 0, .int .i64 (n : Int)] w (Words w (sp (min n (s.size + 1) - 1) c s.data.toList)) := by
  have hI := Tryd.strings_Index_one
  obtain ⟨l, hl⟩ : ∃ l, Hid (s.data.toList = l) := ⟨_, rfl⟩
  rw [hl.out]
  have hsl : s.size = l.length := by rw [← hl.out, Array.length_toList]; rfl
  have hone : ¬ (⟨#[c]⟩ : ByteArray) = ⟨#[]⟩ := fun e => by have := congrArg ByteArray.size e; exact absurd this (show ¬ (1 = 0) by decide)
  obtain ⟨F, hF1, hF2, hF3⟩ : ∃ F : Nat, min n (s.size + 1) - 1 = F ∧ min (n : Int) ((l.length : Int) + 1) = (F : Int) + 1 ∧ F ≤ 100 := ⟨min n (s.size + 1) - 1, rfl, by omega, by omega⟩
  rw [hF1]
  go_enter Tryd.func55, Tryd.ntmps55
  have HF := Lib.hid hF1
  clear hF1
  have hlen1 : (l.length : Int) ≤ 1000 := by omega
  go_wp2_with (at_make; go_loud (refine wpList_make_s w rfl (.tmp 30) (.tmp 30) rfl _ (F + 1) rfl rfl (by omega) (by omega) ?_); intro w1 hw1 b1)
  go_loopw [0, 10, 11] (fun sv iv mv wr => ∃ (k : Nat) (r : List UInt8) (s' : ByteArray) (cs : Array Value), k ≤ F ∧ iv = .int .i64 k ∧ sv = .string s' ∧ Hid (s'.data.toList = r) ∧ s'.size ≤ 1000 ∧ Hid (Fill c F l k r cs) ∧ Hid (Whole wr w.heap.size 9 cs) ∧ Below w.heap.size w wr) (fun _ iv _ _ => F - (intOf iv).toNat)
  case atStart => exact ⟨0, l, s, _, Nat.zero_le _, rfl, rfl, hl.out, hs, Fill.zero _ _ _, hw1, b1⟩
  case round =>
    obtain ⟨k, r, s', cs, hk, rfl, rfl, hr, hs', hfi, hwr, hbel⟩ := hrel
    have f1 := hwr.out.frozen k
    obtain ⟨u, hu⟩ : ∃ u, cs[k]? = some u := ⟨_, Array.getElem?_eq_getElem (by have := hfi.out.size; omega)⟩
    have ck := hwr.out.cell k
    rw [hu] at ck
    clear hu
    have hsz := hbel.size
    by_cases hlt : k < F
    · have hIx := hI s' c wr
      rw [hr.out] at hIx
      by_cases hm : Lib.indexByte r c < 0
      · have HM := Lib.hid (sp_none (k := F - k) hm)
        generalize Lib.indexByte r c = ix at *
        go_wp2_with fail
        refine hIx.mono ?_
        rintro e w2 ⟨rfl, rfl⟩
        have hsp := Lib.hid (hfi.out.last (HM.out))
        have he : s' = ⟨r.toArray⟩ := ba_ext hr.out
        subst he
        go_wp2_with fail
        go_ret
        exact ⟨_, _, _, by rw [hsp.out.1]; rfl, Nat.le_refl _, hwr.out.set_ k _, fun j x hx => hsp.out.2 j x hx, hbel.setCell (Nat.le_refl _) _⟩
      · obtain ⟨m, hm'⟩ : ∃ m : Nat, Lib.indexByte r c = m := ⟨(Lib.indexByte r c).toNat, by omega⟩
        have HX := Lib.hid (hfi.out.step hlt hm')
        have hml : m < s'.size := by
          have h1 := (Lib.indexByte_some hm').1
          have h2 := (List.getElem?_eq_some_iff.1 h1).1
          rw [← hr.out, Array.length_toList] at h2
          exact h2
        have hE1 := Lib.hid (ba_ext (ext_take hr.out m))
        have hE2 := Lib.hid (ext_drop hr.out (m + 1))
        rw [hm'] at hIx
        clear hm hm'
        have hd1 : (m : Int) ≤ (s'.size : Int) := by omega
        have hd2 : (m : Int) + 1 ≤ (s'.size : Int) := by omega
        have hes : (s'.extract (m + 1) s'.size).size ≤ 1000 := by rw [ByteArray.size_extract]; omega
        go_wp2_with fail
        refine hIx.mono ?_
        rintro e w2 ⟨rfl, rfl⟩
        go_wp2_with fail
        rw [hE1.out]
        go_roundw
        case rel => exact ⟨k + 1, r.drop (m + 1), _, _, by omega, by go_num, rfl, hE2, hes, HX, hwr.out.set_ k _, hbel.setCell (Nat.le_refl _) _⟩
        case measure => simp [intOf]; omega
    · obtain rfl : k = F := by omega
      have hsp := Lib.hid (hfi.out.last (by rw [Nat.sub_self]; rfl))
      have he : s' = ⟨r.toArray⟩ := ba_ext hr.out
      subst he
      go_wp2_with fail
      go_ret
      exact ⟨_, _, _, by rw [hsp.out.1]; rfl, Nat.le_refl _, hwr.out.set_ k _, fun j x hx => hsp.out.2 j x hx, hbel.setCell (Nat.le_refl _) _⟩
theorem splitn_any (c : UInt8) (n : Nat) (hn : 1 ≤ n) (hn2 : n ≤ 100) (s : ByteArray) (hs : s.size ≤ 1000) (w : World) :
    Calls Tryd.prog 41 #[.string s, .string ⟨#[c]⟩, .int .i64 (n : Int)] w (Words w (sp (min n (s.size + 1) - 1) c s.data.toList)) := by
  have hS := splitA_any c n hn hn2 s hs w
  go_enter Tryd.func41, Tryd.ntmps41
  go_wp2_with fail
  refine hS.mono ?_
  rintro e w1 ⟨g, cap, cs, rfl, h1, h2, h3, h4⟩
  go_wp2_with fail
  go_ret
  exact ⟨g, cap, cs, rfl, h1, h2, h3, h4⟩
end Go.Proofs.YtemeeeiglifpaaaDoor

/- Layer 9: what a number's fault becomes (toError): an error that is not nil. It writes nothing that was there. -/



namespace Go.Proofs.YtemeeeiglifpaaaDoor
open Go.RowKit Go.Shelf

/-- the library's two errors, whatever they are -/
structure Errs (w : World) : Prop where
  syn : ∃ t u, w.cell? ⟨2, 0, none⟩ = some (.iface t u)
  rng : ∃ t u, w.cell? ⟨3, 0, none⟩ = some (.iface t u)
theorem cell_lt {w : World} {p : Addr} {v : Value} (h : w.cell? p = some v) : p.block < w.heap.size := World.block_lt_of_cell? w _ h
theorem Errs.below {w w' : World} (h : Errs w) (hb : Below w.heap.size w w') : Errs w' := by
  obtain ⟨⟨t, u, h1⟩, ⟨t', u', h2⟩⟩ := h
  exact ⟨⟨t, u, (hb.cell (cell_lt h1)).trans h1⟩, ⟨t', u', (hb.cell (cell_lt h2)).trans h2⟩⟩
theorem below_undrewQ {B : Nat} {w w' : World} (h : Below B w.drew w') : Below B w w' := ⟨h.os, h.tape, h.output, h.size, h.block⟩

set_option maxRecDepth 100000 in
set_option maxHeartbeats 4000000 in
theorem synErr_any (f s : ByteArray) (hs : s.size ≤ 1000) (w : World) (hE : Errs w) :
    Calls Tryd.prog 72 #[.string f, .string s] w fun e w' => ∃ g, e = .returned (.pointer (some ⟨g, 0, none⟩)) ∧ Below w.heap.size w w' := by
  have hC := fun W => Tryd.stringslite_Clone s W (by omega)
  obtain ⟨t, u, hv⟩ := hE.syn
  have hlt := cell_lt hv
  simp only [] at hlt
  have HB := Lib.hid (Below.refl w.heap.size w)
  go_enter Tryd.func72, Tryd.ntmps72
  go_wp2_with fail
  go_region_held3 (fun W => W.cell? ⟨2, 0, none⟩ = some (.iface t u)) (first | exact hS5 | go_keep | fail) (first
    | (go_at_call 85; refine (hC _).mono ?_; rintro e w5 ⟨rfl, b5⟩; have hS5 := (b5.cell (p := ⟨2, 0, none⟩) hlt).trans hv; have HB5 := Lib.hid (below_undrewQ b5)) | fail)
  go_wp2_with fail
  go_ret
  exact ⟨_, rfl, HB5.out.alloc HB5.out.size _⟩
set_option maxRecDepth 100000 in
set_option maxHeartbeats 4000000 in
theorem rngErr_any (f s : ByteArray) (hs : s.size ≤ 1000) (w : World) (hE : Errs w) :
    Calls Tryd.prog 73 #[.string f, .string s] w fun e w' => ∃ g, e = .returned (.pointer (some ⟨g, 0, none⟩)) ∧ Below w.heap.size w w' := by
  have hC := fun W => Tryd.stringslite_Clone s W (by omega)
  obtain ⟨t, u, hv⟩ := hE.rng
  have hlt := cell_lt hv
  simp only [] at hlt
  have HB := Lib.hid (Below.refl w.heap.size w)
  go_enter Tryd.func73, Tryd.ntmps73
  go_wp2_with fail
  go_region_held3 (fun W => W.cell? ⟨3, 0, none⟩ = some (.iface t u)) (first | exact hS5 | go_keep | fail) (first
    | (go_at_call 85; refine (hC _).mono ?_; rintro e w5 ⟨rfl, b5⟩; have hS5 := (b5.cell (p := ⟨3, 0, none⟩) hlt).trans hv; have HB5 := Lib.hid (below_undrewQ b5)) | fail)
  go_wp2_with fail
  go_ret
  exact ⟨_, rfl, HB5.out.alloc HB5.out.size _⟩
theorem eqE_12 (w : World) : (binOp .eql 57 (.iface 106 (.int .i64 1)) (.iface 106 (.int .i64 2))).run Tryd.prog w = .ok (.bool false) w := by kernel_rfl
theorem eqE_22 (w : World) : (binOp .eql 57 (.iface 106 (.int .i64 2)) (.iface 106 (.int .i64 2))).run Tryd.prog w = .ok (.bool true) w := by kernel_rfl
theorem eqE_11 (w : World) : (binOp .eql 57 (.iface 106 (.int .i64 1)) (.iface 106 (.int .i64 1))).run Tryd.prog w = .ok (.bool true) w := by kernel_rfl
attribute [local go_sem, local simp] eqE_12 eqE_22 eqE_11
set_option maxRecDepth 100000 in
set_option maxHeartbeats 4000000 in
theorem toErr_any (k : Int) (hk : k = 1 ∨ k = 2) (f s : ByteArray) (b z : Int) (hs : s.size ≤ 1000) (w : World) (hE : Errs w) :
    Calls Tryd.prog 57 #[.string f, .string s, .int .i64 b, .int .i64 z, .iface 106 (.int .i64 k)] w fun e w' => ∃ g, e = .returned (.iface 109 (.pointer (some ⟨g, 0, none⟩))) ∧ Below w.heap.size w w' := by
  have h1 := synErr_any f s hs w hE
  have h2 := rngErr_any f s hs w hE
  rcases hk with rfl | rfl
  all_goals
    go_enter Tryd.func57, Tryd.ntmps57
    go_wp2_with fail
    first | refine h1.mono ?_ | refine h2.mono ?_
    rintro e w1 ⟨g, rfl, b1⟩
    go_wp2_with fail
    go_ret
    exact ⟨g, rfl, b1⟩
end Go.Proofs.YtemeeeiglifpaaaDoor

