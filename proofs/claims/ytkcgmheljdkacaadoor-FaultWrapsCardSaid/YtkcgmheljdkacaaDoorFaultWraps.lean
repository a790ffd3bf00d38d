/- Layer 2, the law FaultWraps: the walk. -/
import Derived.Test.YtkcgmheljdkacaaDoorFaultR
import Derived.Shelf.Vars
namespace Go.Proofs.YtkcgmheljdkacaaDoor
open Go.RowKit Go.Extern.Stop Go.Stop Go.Extern Go.ChangeShapes Go.WideShapes Go.ChangeAt

theorem next_ne (c : Int) : (c == wrap64 (c + 1)) = false := by
  rw [beq_eq_false_iff_ne]
  unfold wrap64
  omega

set_option maxHeartbeats 8000000 in
set_option maxRecDepth 100000 in
theorem wraps_few (nl : Bool) (A : Option Addr) (c : Nat) (ps : List ByteArray) (code a : Int) (fl : Bool) (part : ByteArray) (w : World) (hl : Lies w w.heap.size A (ps.map sv)) (hm : ps.length ≤ maxLen) (hF : fewB ps a = false)  (hh : Handle w) (hN : Names w)  :
    Calls Tryd.prog 5 #[descV nl A ps.length c code a fl, .string part] w fun e w' => e = .returned (.bool true) ∧ Below w.heap.size w w' := by
  have HF := Lib.hid hF
  clear hF
  have hl0 := hl.alloc (Nat.le_refl _) (.cells #[.bool nl, .slice A ps.length c, .int .i64 code, .int .i64 a, .bool fl] 24)
  have hw0 := Whole.new w 24 #[.bool nl, .slice A ps.length c, .int .i64 code, .int .i64 a, .bool fl]
  have bb := (Below.refl _ w).alloc (Nat.le_refl _) (.cells #[.bool nl, .slice A ps.length c, .int .i64 code, .int .i64 a, .bool fl] 24)
  have hh0 := hh.alloc (.cells #[.bool nl, .slice A ps.length c, .int .i64 code, .int .i64 a, .bool fl] 24)
  have hN0 := hN.alloc (.cells #[.bool nl, .slice A ps.length c, .int .i64 code, .int .i64 a, .bool fl] 24)
  have hsz0 : w.heap.size < (w.alloc (.cells #[.bool nl, .slice A ps.length c, .int .i64 code, .int .i64 a, .bool fl] 24)).heap.size := by simp
  generalize hW0 : w.alloc (.cells #[.bool nl, .slice A ps.length c, .int .i64 code, .int .i64 a, .bool fl] 24) = w0 at hl0 hw0 bb hh0 hN0 hsz0
  have HW0 := Lib.hid hW0
  clear hW0
  go_enter Tryd.func5, Tryd.ntmps5
  go_wp2_with fail
  rw [HW0.out]
  refine (awake_any w0 hh0 hN0).mono ?_
  rintro e w1 ⟨rfl, b1⟩
  have hw1 := hw0.below b1 hsz0
  have hl1 : Lies w1 w.heap.size A (ps.map sv) := hl0.keep fun p hp => b1.cell (by omega)
  have s1 := b1.size
  have bw1 := bb.trans (b1.mono (Nat.le_of_lt hsz0))
  have hh1 := hh0.below b1 hh0.lt
  have hN1 := hN0.below b1 hN0.lt
  have g0 := hw1.cell 0
  have g1 := hw1.cell 1
  have g2 := hw1.cell 2
  have g3 := hw1.cell 3
  have g4 := hw1.cell 4
  go_wp2_with fail
  refine (Few_any nl A c ps code a fl w.heap.size w1 hl1 (by omega) hm).mono ?_
  rintro e w2 ⟨rfl, b2⟩
  rw [HF.out]
  clear g0 g1 g2 g3 g4
  have s2 := b2.size
  have hw2 := hw1.below b2 hw1.lt
  have hl2 : Lies w2 w.heap.size A (ps.map sv) := hl1.keep fun p hp => b2.cell (by omega)
  have bw2 := bw1.trans (b2.mono (by omega))
  have hh2 := hh1.below b2 hh1.lt
  have hN2 := hN1.below b2 hN1.lt
  have g0 := hw2.cell 0
  have g1 := hw2.cell 1
  have g2 := hw2.cell 2
  have g3 := hw2.cell 3
  have g4 := hw2.cell 4
  go_wp2_with fail
  refine (awake_any w2 hh2 hN2).mono ?_
  rintro e w3 ⟨rfl, b3⟩
  go_wp2_with fail
  go_ret
  exact ⟨rfl, bw2.trans (b3.mono (by omega))⟩

set_option maxHeartbeats 8000000 in
set_option maxRecDepth 100000 in
theorem wraps_nil  (A : Option Addr) (c : Nat) (ps : List ByteArray) (code a : Int) (fl : Bool) (part : ByteArray) (w : World) (hl : Lies w w.heap.size A (ps.map sv)) (hm : ps.length ≤ maxLen) (hF : fewB ps a = true)  (hh : Handle w) (hN : Names w)  :
    Calls Tryd.prog 5 #[descV true A ps.length c code a fl, .string part] w fun e w' => e = .returned (.bool true) ∧ Below w.heap.size w w' := by
  have HF := Lib.hid hF
  clear hF
  have hl0 := hl.alloc (Nat.le_refl _) (.cells #[.bool true, .slice A ps.length c, .int .i64 code, .int .i64 a, .bool fl] 24)
  have hw0 := Whole.new w 24 #[.bool true, .slice A ps.length c, .int .i64 code, .int .i64 a, .bool fl]
  have bb := (Below.refl _ w).alloc (Nat.le_refl _) (.cells #[.bool true, .slice A ps.length c, .int .i64 code, .int .i64 a, .bool fl] 24)
  have hh0 := hh.alloc (.cells #[.bool true, .slice A ps.length c, .int .i64 code, .int .i64 a, .bool fl] 24)
  have hN0 := hN.alloc (.cells #[.bool true, .slice A ps.length c, .int .i64 code, .int .i64 a, .bool fl] 24)
  have hsz0 : w.heap.size < (w.alloc (.cells #[.bool true, .slice A ps.length c, .int .i64 code, .int .i64 a, .bool fl] 24)).heap.size := by simp
  generalize hW0 : w.alloc (.cells #[.bool true, .slice A ps.length c, .int .i64 code, .int .i64 a, .bool fl] 24) = w0 at hl0 hw0 bb hh0 hN0 hsz0
  have HW0 := Lib.hid hW0
  clear hW0
  go_enter Tryd.func5, Tryd.ntmps5
  go_wp2_with fail
  rw [HW0.out]
  refine (awake_any w0 hh0 hN0).mono ?_
  rintro e w1 ⟨rfl, b1⟩
  have hw1 := hw0.below b1 hsz0
  have hl1 : Lies w1 w.heap.size A (ps.map sv) := hl0.keep fun p hp => b1.cell (by omega)
  have s1 := b1.size
  have bw1 := bb.trans (b1.mono (Nat.le_of_lt hsz0))
  have hh1 := hh0.below b1 hh0.lt
  have hN1 := hN0.below b1 hN0.lt
  have g0 := hw1.cell 0
  have g1 := hw1.cell 1
  have g2 := hw1.cell 2
  have g3 := hw1.cell 3
  have g4 := hw1.cell 4
  go_wp2_with fail
  refine (Few_any true A c ps code a fl w.heap.size w1 hl1 (by omega) hm).mono ?_
  rintro e w2 ⟨rfl, b2⟩
  rw [HF.out]
  clear g0 g1 g2 g3 g4
  have s2 := b2.size
  have hw2 := hw1.below b2 hw1.lt
  have hl2 : Lies w2 w.heap.size A (ps.map sv) := hl1.keep fun p hp => b2.cell (by omega)
  have bw2 := bw1.trans (b2.mono (by omega))
  have hh2 := hh1.below b2 hh1.lt
  have hN2 := hN1.below b2 hN1.lt
  have g0 := hw2.cell 0
  have g1 := hw2.cell 1
  have g2 := hw2.cell 2
  have g3 := hw2.cell 3
  have g4 := hw2.cell 4
  go_wp2_with fail
  refine (awake_any w2 hh2 hN2).mono ?_
  rintro e w3 ⟨rfl, b3⟩
  go_wp2_with fail
  go_ret
  exact ⟨rfl, bw2.trans (b3.mono (by omega))⟩

set_option maxHeartbeats 8000000 in
set_option maxRecDepth 100000 in
theorem wraps_long  (A : Option Addr) (c : Nat) (ps : List ByteArray) (code a : Int) (fl : Bool) (part : ByteArray) (w : World) (hl : Lies w w.heap.size A (ps.map sv)) (hm : ps.length ≤ maxLen) (hF : fewB ps a = true) (hp : 50 < part.size) (hh : Handle w) (hN : Names w)  :
    Calls Tryd.prog 5 #[descV false A ps.length c code a fl, .string part] w fun e w' => e = .returned (.bool true) ∧ Below w.heap.size w w' := by
  have HF := Lib.hid hF
  clear hF
  have hl0 := hl.alloc (Nat.le_refl _) (.cells #[.bool false, .slice A ps.length c, .int .i64 code, .int .i64 a, .bool fl] 24)
  have hw0 := Whole.new w 24 #[.bool false, .slice A ps.length c, .int .i64 code, .int .i64 a, .bool fl]
  have bb := (Below.refl _ w).alloc (Nat.le_refl _) (.cells #[.bool false, .slice A ps.length c, .int .i64 code, .int .i64 a, .bool fl] 24)
  have hh0 := hh.alloc (.cells #[.bool false, .slice A ps.length c, .int .i64 code, .int .i64 a, .bool fl] 24)
  have hN0 := hN.alloc (.cells #[.bool false, .slice A ps.length c, .int .i64 code, .int .i64 a, .bool fl] 24)
  have hsz0 : w.heap.size < (w.alloc (.cells #[.bool false, .slice A ps.length c, .int .i64 code, .int .i64 a, .bool fl] 24)).heap.size := by simp
  generalize hW0 : w.alloc (.cells #[.bool false, .slice A ps.length c, .int .i64 code, .int .i64 a, .bool fl] 24) = w0 at hl0 hw0 bb hh0 hN0 hsz0
  have HW0 := Lib.hid hW0
  clear hW0
  have hp' : (50 : Int) < part.size := by omega
  go_enter Tryd.func5, Tryd.ntmps5
  go_wp2_with fail
  rw [HW0.out]
  refine (awake_any w0 hh0 hN0).mono ?_
  rintro e w1 ⟨rfl, b1⟩
  have hw1 := hw0.below b1 hsz0
  have hl1 : Lies w1 w.heap.size A (ps.map sv) := hl0.keep fun p hp => b1.cell (by omega)
  have s1 := b1.size
  have bw1 := bb.trans (b1.mono (Nat.le_of_lt hsz0))
  have hh1 := hh0.below b1 hh0.lt
  have hN1 := hN0.below b1 hN0.lt
  have g0 := hw1.cell 0
  have g1 := hw1.cell 1
  have g2 := hw1.cell 2
  have g3 := hw1.cell 3
  have g4 := hw1.cell 4
  go_wp2_with fail
  refine (Few_any false A c ps code a fl w.heap.size w1 hl1 (by omega) hm).mono ?_
  rintro e w2 ⟨rfl, b2⟩
  rw [HF.out]
  clear g0 g1 g2 g3 g4
  have s2 := b2.size
  have hw2 := hw1.below b2 hw1.lt
  have hl2 : Lies w2 w.heap.size A (ps.map sv) := hl1.keep fun p hp => b2.cell (by omega)
  have bw2 := bw1.trans (b2.mono (by omega))
  have hh2 := hh1.below b2 hh1.lt
  have hN2 := hN1.below b2 hN1.lt
  have g0 := hw2.cell 0
  have g1 := hw2.cell 1
  have g2 := hw2.cell 2
  have g3 := hw2.cell 3
  have g4 := hw2.cell 4
  go_wp2_with fail
  refine (awake_any w2 hh2 hN2).mono ?_
  rintro e w3 ⟨rfl, b3⟩
  go_wp2_with fail
  go_ret
  exact ⟨rfl, bw2.trans (b3.mono (by omega))⟩

set_option maxHeartbeats 8000000 in
set_option maxRecDepth 100000 in
theorem wraps_some_c  (A : Option Addr) (c : Nat) (ps : List ByteArray) (code a : Int) (fl : Bool) (part : ByteArray) (w : World) (hl : Lies w w.heap.size A (ps.map sv)) (hm : ps.length ≤ maxLen) (hF : fewB ps a = true) (hp : ¬ 50 < part.size) (x : Value) (s : ByteArray) (hX : wraps ps.reverse (baseV fl code a) = .iface 30 x) (hh : Handle w) (hN : Names w) (pw : Nat → Nat) (hT : Tab pw w) (hE : ∀ w, Tab pw w → Calls Tryd.prog 49 #[x] w fun e w' => e = .returned (.string s) ∧ Below w.heap.size w w') :
    Calls Tryd.prog 5 #[descV false A ps.length c code a fl, .string part] w fun e w' => e = .returned (.bool true) ∧ Below w.heap.size w w' := by
  have HF := Lib.hid hF
  clear hF
  have hl0 := hl.alloc (Nat.le_refl _) (.cells #[.bool false, .slice A ps.length c, .int .i64 code, .int .i64 a, .bool fl] 24)
  have hw0 := Whole.new w 24 #[.bool false, .slice A ps.length c, .int .i64 code, .int .i64 a, .bool fl]
  have bb := (Below.refl _ w).alloc (Nat.le_refl _) (.cells #[.bool false, .slice A ps.length c, .int .i64 code, .int .i64 a, .bool fl] 24)
  have hh0 := hh.alloc (.cells #[.bool false, .slice A ps.length c, .int .i64 code, .int .i64 a, .bool fl] 24)
  have hN0 := hN.alloc (.cells #[.bool false, .slice A ps.length c, .int .i64 code, .int .i64 a, .bool fl] 24)
  have hT0 := hT.alloc (.cells #[.bool false, .slice A ps.length c, .int .i64 code, .int .i64 a, .bool fl] 24)
  have hsz0 : w.heap.size < (w.alloc (.cells #[.bool false, .slice A ps.length c, .int .i64 code, .int .i64 a, .bool fl] 24)).heap.size := by simp
  generalize hW0 : w.alloc (.cells #[.bool false, .slice A ps.length c, .int .i64 code, .int .i64 a, .bool fl] 24) = w0 at hl0 hw0 bb hh0 hN0 hsz0 hT0
  have HW0 := Lib.hid hW0
  clear hW0
  have hp' : ¬ (50 : Int) < part.size := by omega
  have HA := Lib.hid (show Value.iface 53 (.agg #[.string part, .iface 30 x]) = wraps (part :: ps.reverse) (baseV fl code a) by rw [← hX]; rfl)
  have HX := Lib.hid hX
  have HE := Lib.hid hE
  clear hX hE
  go_enter Tryd.func5, Tryd.ntmps5
  go_wp2_with fail
  rw [HW0.out]
  refine (awake_any w0 hh0 hN0).mono ?_
  rintro e w1 ⟨rfl, b1⟩
  have hw1 := hw0.below b1 hsz0
  have hl1 : Lies w1 w.heap.size A (ps.map sv) := hl0.keep fun p hp => b1.cell (by omega)
  have s1 := b1.size
  have bw1 := bb.trans (b1.mono (Nat.le_of_lt hsz0))
  have hh1 := hh0.below b1 hh0.lt
  have hN1 := hN0.below b1 hN0.lt
  have g0 := hw1.cell 0
  have g1 := hw1.cell 1
  have g2 := hw1.cell 2
  have g3 := hw1.cell 3
  have g4 := hw1.cell 4
  go_wp2_with fail
  refine (Few_any false A c ps code a fl w.heap.size w1 hl1 (by omega) hm).mono ?_
  rintro e w2 ⟨rfl, b2⟩
  rw [HF.out]
  clear g0 g1 g2 g3 g4
  have s2 := b2.size
  have hw2 := hw1.below b2 hw1.lt
  have hl2 : Lies w2 w.heap.size A (ps.map sv) := hl1.keep fun p hp => b2.cell (by omega)
  have bw2 := bw1.trans (b2.mono (by omega))
  have hh2 := hh1.below b2 hh1.lt
  have hN2 := hN1.below b2 hN1.lt
  have g0 := hw2.cell 0
  have g1 := hw2.cell 1
  have g2 := hw2.cell 2
  have g3 := hw2.cell 3
  have g4 := hw2.cell 4
  go_wp2_with fail
  refine (build_any A c ps code a fl w.heap.size w2 hl2 (by omega) hm).mono ?_
  rintro e w3 ⟨rfl, b3⟩
  clear g0 g1 g2 g3 g4
  have s3 := b3.size
  have hw3 := hw2.below b3 hw2.lt
  have bw3 := bw2.trans (b3.mono (by omega))
  rw [HX.out]
  go_wp2_with fail
  refine (In_any _ _ _ _).mono ?_
  rintro e w4 ⟨rfl, rfl⟩
  unfold wrapV
  go_wp2_with fail
  refine (Unwrap_any _ _ _).mono ?_
  rintro e w4 ⟨rfl, b4⟩
  have s4 := b4.size
  have hw4 := hw3.below b4 hw3.lt
  have bw4 := bw3.trans (b4.mono (by omega))
  have hT4 := hT0.below (b1.trans ((b2.mono s1).trans ((b3.mono (by omega)).trans (b4.mono (by omega))))) hT0.lt
  have HT4 := Lib.hid hT4
  clear hT4
  have hm := mEr_c
  go_wp2_with fail
  refine (HE.out w4 HT4.out).mono ?_
  rintro e w5 ⟨rfl, b5⟩
  have s5 := b5.size
  have hw5 := hw4.below b5 hw4.lt
  have bw5 := bw4.trans (b5.mono (by omega))
  have HT5 := Lib.hid (HT4.out.below b5 HT4.out.lt)
  go_wp2_with fail
  refine (HE.out w5 HT5.out).mono ?_
  rintro e w6 ⟨rfl, b6⟩
  have s6 := b6.size
  have hw6 := hw5.below b6 hw5.lt
  have bw6 := bw5.trans (b6.mono (by omega))
  have g2 := hw6.cell 2
  go_wp2_with fail
  rw [HA.out]
  refine (Is_any fl code a code _ w6).mono ?_
  rintro e w7 ⟨rfl, b7⟩
  rw [beq_self_eq_true]
  clear g2
  have s7 := b7.size
  have hw7 := hw6.below b7 hw6.lt
  have bw7 := bw6.trans (b7.mono (by omega))
  have g2 := hw7.cell 2
  go_wp2_with fail
  refine (Is_any fl code a _ _ w7).mono ?_
  rintro e w8 ⟨rfl, b8⟩
  rw [next_ne]
  have bw8 := bw7.trans (b8.mono (by omega))
  go_wp2_with fail
  go_ret
  exact ⟨rfl, bw8⟩

set_option maxHeartbeats 8000000 in
set_option maxRecDepth 100000 in
theorem wraps_some_f  (A : Option Addr) (c : Nat) (ps : List ByteArray) (code a : Int) (fl : Bool) (part : ByteArray) (w : World) (hl : Lies w w.heap.size A (ps.map sv)) (hm : ps.length ≤ maxLen) (hF : fewB ps a = true) (hp : ¬ 50 < part.size) (x : Value) (s : ByteArray) (hX : wraps ps.reverse (baseV fl code a) = .iface 48 x) (hh : Handle w) (hN : Names w) (pw : Nat → Nat) (hT : Tab pw w) (hE : ∀ w, Tab pw w → Calls Tryd.prog 64 #[x] w fun e w' => e = .returned (.string s) ∧ Below w.heap.size w w') :
    Calls Tryd.prog 5 #[descV false A ps.length c code a fl, .string part] w fun e w' => e = .returned (.bool true) ∧ Below w.heap.size w w' := by
  have HF := Lib.hid hF
  clear hF
  have hl0 := hl.alloc (Nat.le_refl _) (.cells #[.bool false, .slice A ps.length c, .int .i64 code, .int .i64 a, .bool fl] 24)
  have hw0 := Whole.new w 24 #[.bool false, .slice A ps.length c, .int .i64 code, .int .i64 a, .bool fl]
  have bb := (Below.refl _ w).alloc (Nat.le_refl _) (.cells #[.bool false, .slice A ps.length c, .int .i64 code, .int .i64 a, .bool fl] 24)
  have hh0 := hh.alloc (.cells #[.bool false, .slice A ps.length c, .int .i64 code, .int .i64 a, .bool fl] 24)
  have hN0 := hN.alloc (.cells #[.bool false, .slice A ps.length c, .int .i64 code, .int .i64 a, .bool fl] 24)
  have hT0 := hT.alloc (.cells #[.bool false, .slice A ps.length c, .int .i64 code, .int .i64 a, .bool fl] 24)
  have hsz0 : w.heap.size < (w.alloc (.cells #[.bool false, .slice A ps.length c, .int .i64 code, .int .i64 a, .bool fl] 24)).heap.size := by simp
  generalize hW0 : w.alloc (.cells #[.bool false, .slice A ps.length c, .int .i64 code, .int .i64 a, .bool fl] 24) = w0 at hl0 hw0 bb hh0 hN0 hsz0 hT0
  have HW0 := Lib.hid hW0
  clear hW0
  have hp' : ¬ (50 : Int) < part.size := by omega
  have HA := Lib.hid (show Value.iface 53 (.agg #[.string part, .iface 48 x]) = wraps (part :: ps.reverse) (baseV fl code a) by rw [← hX]; rfl)
  have HX := Lib.hid hX
  have HE := Lib.hid hE
  clear hX hE
  go_enter Tryd.func5, Tryd.ntmps5
  go_wp2_with fail
  rw [HW0.out]
  refine (awake_any w0 hh0 hN0).mono ?_
  rintro e w1 ⟨rfl, b1⟩
  have hw1 := hw0.below b1 hsz0
  have hl1 : Lies w1 w.heap.size A (ps.map sv) := hl0.keep fun p hp => b1.cell (by omega)
  have s1 := b1.size
  have bw1 := bb.trans (b1.mono (Nat.le_of_lt hsz0))
  have hh1 := hh0.below b1 hh0.lt
  have hN1 := hN0.below b1 hN0.lt
  have g0 := hw1.cell 0
  have g1 := hw1.cell 1
  have g2 := hw1.cell 2
  have g3 := hw1.cell 3
  have g4 := hw1.cell 4
  go_wp2_with fail
  refine (Few_any false A c ps code a fl w.heap.size w1 hl1 (by omega) hm).mono ?_
  rintro e w2 ⟨rfl, b2⟩
  rw [HF.out]
  clear g0 g1 g2 g3 g4
  have s2 := b2.size
  have hw2 := hw1.below b2 hw1.lt
  have hl2 : Lies w2 w.heap.size A (ps.map sv) := hl1.keep fun p hp => b2.cell (by omega)
  have bw2 := bw1.trans (b2.mono (by omega))
  have hh2 := hh1.below b2 hh1.lt
  have hN2 := hN1.below b2 hN1.lt
  have g0 := hw2.cell 0
  have g1 := hw2.cell 1
  have g2 := hw2.cell 2
  have g3 := hw2.cell 3
  have g4 := hw2.cell 4
  go_wp2_with fail
  refine (build_any A c ps code a fl w.heap.size w2 hl2 (by omega) hm).mono ?_
  rintro e w3 ⟨rfl, b3⟩
  clear g0 g1 g2 g3 g4
  have s3 := b3.size
  have hw3 := hw2.below b3 hw2.lt
  have bw3 := bw2.trans (b3.mono (by omega))
  rw [HX.out]
  go_wp2_with fail
  refine (In_any _ _ _ _).mono ?_
  rintro e w4 ⟨rfl, rfl⟩
  unfold wrapV
  go_wp2_with fail
  refine (Unwrap_any _ _ _).mono ?_
  rintro e w4 ⟨rfl, b4⟩
  have s4 := b4.size
  have hw4 := hw3.below b4 hw3.lt
  have bw4 := bw3.trans (b4.mono (by omega))
  have hT4 := hT0.below (b1.trans ((b2.mono s1).trans ((b3.mono (by omega)).trans (b4.mono (by omega))))) hT0.lt
  have HT4 := Lib.hid hT4
  clear hT4
  have hm := mEr_f
  go_wp2_with fail
  refine (HE.out w4 HT4.out).mono ?_
  rintro e w5 ⟨rfl, b5⟩
  have s5 := b5.size
  have hw5 := hw4.below b5 hw4.lt
  have bw5 := bw4.trans (b5.mono (by omega))
  have HT5 := Lib.hid (HT4.out.below b5 HT4.out.lt)
  go_wp2_with fail
  refine (HE.out w5 HT5.out).mono ?_
  rintro e w6 ⟨rfl, b6⟩
  have s6 := b6.size
  have hw6 := hw5.below b6 hw5.lt
  have bw6 := bw5.trans (b6.mono (by omega))
  have g2 := hw6.cell 2
  go_wp2_with fail
  rw [HA.out]
  refine (Is_any fl code a code _ w6).mono ?_
  rintro e w7 ⟨rfl, b7⟩
  rw [beq_self_eq_true]
  clear g2
  have s7 := b7.size
  have hw7 := hw6.below b7 hw6.lt
  have bw7 := bw6.trans (b7.mono (by omega))
  have g2 := hw7.cell 2
  go_wp2_with fail
  refine (Is_any fl code a _ _ w7).mono ?_
  rintro e w8 ⟨rfl, b8⟩
  rw [next_ne]
  have bw8 := bw7.trans (b8.mono (by omega))
  go_wp2_with fail
  go_ret
  exact ⟨rfl, bw8⟩

set_option maxHeartbeats 8000000 in
set_option maxRecDepth 100000 in
theorem wraps_some_w  (A : Option Addr) (c : Nat) (ps : List ByteArray) (code a : Int) (fl : Bool) (part : ByteArray) (w : World) (hl : Lies w w.heap.size A (ps.map sv)) (hm : ps.length ≤ maxLen) (hF : fewB ps a = true) (hp : ¬ 50 < part.size) (x : Value) (s : ByteArray) (hX : wraps ps.reverse (baseV fl code a) = .iface 53 x) (hh : Handle w) (hN : Names w) (pw : Nat → Nat) (hT : Tab pw w) (hE : ∀ w, Tab pw w → Calls Tryd.prog 66 #[x] w fun e w' => e = .returned (.string s) ∧ Below w.heap.size w w') :
    Calls Tryd.prog 5 #[descV false A ps.length c code a fl, .string part] w fun e w' => e = .returned (.bool true) ∧ Below w.heap.size w w' := by
  have HF := Lib.hid hF
  clear hF
  have hl0 := hl.alloc (Nat.le_refl _) (.cells #[.bool false, .slice A ps.length c, .int .i64 code, .int .i64 a, .bool fl] 24)
  have hw0 := Whole.new w 24 #[.bool false, .slice A ps.length c, .int .i64 code, .int .i64 a, .bool fl]
  have bb := (Below.refl _ w).alloc (Nat.le_refl _) (.cells #[.bool false, .slice A ps.length c, .int .i64 code, .int .i64 a, .bool fl] 24)
  have hh0 := hh.alloc (.cells #[.bool false, .slice A ps.length c, .int .i64 code, .int .i64 a, .bool fl] 24)
  have hN0 := hN.alloc (.cells #[.bool false, .slice A ps.length c, .int .i64 code, .int .i64 a, .bool fl] 24)
  have hT0 := hT.alloc (.cells #[.bool false, .slice A ps.length c, .int .i64 code, .int .i64 a, .bool fl] 24)
  have hsz0 : w.heap.size < (w.alloc (.cells #[.bool false, .slice A ps.length c, .int .i64 code, .int .i64 a, .bool fl] 24)).heap.size := by simp
  generalize hW0 : w.alloc (.cells #[.bool false, .slice A ps.length c, .int .i64 code, .int .i64 a, .bool fl] 24) = w0 at hl0 hw0 bb hh0 hN0 hsz0 hT0
  have HW0 := Lib.hid hW0
  clear hW0
  have hp' : ¬ (50 : Int) < part.size := by omega
  have HA := Lib.hid (show Value.iface 53 (.agg #[.string part, .iface 53 x]) = wraps (part :: ps.reverse) (baseV fl code a) by rw [← hX]; rfl)
  have HX := Lib.hid hX
  have HE := Lib.hid hE
  clear hX hE
  go_enter Tryd.func5, Tryd.ntmps5
  go_wp2_with fail
  rw [HW0.out]
  refine (awake_any w0 hh0 hN0).mono ?_
  rintro e w1 ⟨rfl, b1⟩
  have hw1 := hw0.below b1 hsz0
  have hl1 : Lies w1 w.heap.size A (ps.map sv) := hl0.keep fun p hp => b1.cell (by omega)
  have s1 := b1.size
  have bw1 := bb.trans (b1.mono (Nat.le_of_lt hsz0))
  have hh1 := hh0.below b1 hh0.lt
  have hN1 := hN0.below b1 hN0.lt
  have g0 := hw1.cell 0
  have g1 := hw1.cell 1
  have g2 := hw1.cell 2
  have g3 := hw1.cell 3
  have g4 := hw1.cell 4
  go_wp2_with fail
  refine (Few_any false A c ps code a fl w.heap.size w1 hl1 (by omega) hm).mono ?_
  rintro e w2 ⟨rfl, b2⟩
  rw [HF.out]
  clear g0 g1 g2 g3 g4
  have s2 := b2.size
  have hw2 := hw1.below b2 hw1.lt
  have hl2 : Lies w2 w.heap.size A (ps.map sv) := hl1.keep fun p hp => b2.cell (by omega)
  have bw2 := bw1.trans (b2.mono (by omega))
  have hh2 := hh1.below b2 hh1.lt
  have hN2 := hN1.below b2 hN1.lt
  have g0 := hw2.cell 0
  have g1 := hw2.cell 1
  have g2 := hw2.cell 2
  have g3 := hw2.cell 3
  have g4 := hw2.cell 4
  go_wp2_with fail
  refine (build_any A c ps code a fl w.heap.size w2 hl2 (by omega) hm).mono ?_
  rintro e w3 ⟨rfl, b3⟩
  clear g0 g1 g2 g3 g4
  have s3 := b3.size
  have hw3 := hw2.below b3 hw2.lt
  have bw3 := bw2.trans (b3.mono (by omega))
  rw [HX.out]
  go_wp2_with fail
  refine (In_any _ _ _ _).mono ?_
  rintro e w4 ⟨rfl, rfl⟩
  unfold wrapV
  go_wp2_with fail
  refine (Unwrap_any _ _ _).mono ?_
  rintro e w4 ⟨rfl, b4⟩
  have s4 := b4.size
  have hw4 := hw3.below b4 hw3.lt
  have bw4 := bw3.trans (b4.mono (by omega))
  have hT4 := hT0.below (b1.trans ((b2.mono s1).trans ((b3.mono (by omega)).trans (b4.mono (by omega))))) hT0.lt
  have HT4 := Lib.hid hT4
  clear hT4
  have hm := mEr_w
  go_wp2_with fail
  refine (HE.out w4 HT4.out).mono ?_
  rintro e w5 ⟨rfl, b5⟩
  have s5 := b5.size
  have hw5 := hw4.below b5 hw4.lt
  have bw5 := bw4.trans (b5.mono (by omega))
  have HT5 := Lib.hid (HT4.out.below b5 HT4.out.lt)
  go_wp2_with fail
  refine (HE.out w5 HT5.out).mono ?_
  rintro e w6 ⟨rfl, b6⟩
  have s6 := b6.size
  have hw6 := hw5.below b6 hw5.lt
  have bw6 := bw5.trans (b6.mono (by omega))
  have g2 := hw6.cell 2
  go_wp2_with fail
  rw [HA.out]
  refine (Is_any fl code a code _ w6).mono ?_
  rintro e w7 ⟨rfl, b7⟩
  rw [beq_self_eq_true]
  clear g2
  have s7 := b7.size
  have hw7 := hw6.below b7 hw6.lt
  have bw7 := bw6.trans (b7.mono (by omega))
  have g2 := hw7.cell 2
  go_wp2_with fail
  refine (Is_any fl code a _ _ w7).mono ?_
  rintro e w8 ⟨rfl, b8⟩
  rw [next_ne]
  have bw8 := bw7.trans (b8.mono (by omega))
  go_wp2_with fail
  go_ret
  exact ⟨rfl, bw8⟩
end Go.Proofs.YtkcgmheljdkacaaDoor
