/- Layer 2, the law FaultShifts: the walk. -/
import Derived.Test.YtkcgmheljdkacaaDoorFaultM
namespace Go.Proofs.YtkcgmheljdkacaaDoor
open Go.RowKit Go.Extern.Stop Go.Stop Go.Extern Go.ChangeShapes Go.WideShapes Go.ChangeAt

theorem wrap64_id {x : Int} (h : -9223372036854775808 ≤ x ∧ x ≤ 9223372036854775807) : wrap64 x = x := by
  unfold wrap64
  omega

set_option maxHeartbeats 4000000 in
theorem shifts_few (nl : Bool) (A : Option Addr) (c : Nat) (ps : List ByteArray) (code a : Int) (fl : Bool) (n : Int) (w : World) (hl : Lies w w.heap.size A (ps.map sv)) (hm : ps.length ≤ maxLen) (hn : -2147483648 ≤ n ∧ n ≤ 2147483647) (hF : fewB ps a = false) (hh : Handle w) (hN : Names w) :
    Calls Tryd.prog 4 #[descV nl A ps.length c code a fl, .int .i32 n] w fun e w' => e = .returned (.bool true) ∧ Below w.heap.size w w' := by
  obtain ⟨hn1, hn2⟩ := hn
  have HF := Lib.hid hF
  clear hF
  have hl0 := hl.alloc (Nat.le_refl _) (.cells #[.bool nl, .slice A ps.length c, .int .i64 code, .int .i64 a, .bool fl] 24)
  have hw0 := Whole.new w 24 #[.bool nl, .slice A ps.length c, .int .i64 code, .int .i64 a, .bool fl]
  have bb := (Below.refl _ w).alloc (Nat.le_refl _) (.cells #[.bool nl, .slice A ps.length c, .int .i64 code, .int .i64 a, .bool fl] 24)
  have hh0 := hh.alloc (.cells #[.bool nl, .slice A ps.length c, .int .i64 code, .int .i64 a, .bool fl] 24)
  have hN0 := hN.alloc (.cells #[.bool nl, .slice A ps.length c, .int .i64 code, .int .i64 a, .bool fl] 24)
  have hsz0 : w.heap.size < (w.alloc (.cells #[.bool nl, .slice A ps.length c, .int .i64 code, .int .i64 a, .bool fl] 24)).heap.size := by simp
  generalize hW0 : w.alloc (.cells #[.bool nl, .slice A ps.length c, .int .i64 code, .int .i64 a, .bool fl] 24) = w0 at hl0 hw0 bb hh0 hN0 hsz0
  have HW0 := Lib.hid hW0
  clear hW0
  go_enter Tryd.func4, Tryd.ntmps4
  go_wp2_with fail
  rw [HW0.out]
  refine (awake_any w0 hh0 hN0).mono ?_
  rintro e w1 ⟨rfl, b1⟩
  have hw1 := hw0.below b1 hsz0
  have hl1 : Lies w1 w.heap.size A (ps.map sv) := hl0.keep fun p hp => b1.cell (by omega)
  have s1 := b1.size
  have bw1 := bb.trans (b1.mono (Nat.le_of_lt hsz0))
  have hh1 := hh0.below b1 hh0.lt
  have hN1 := hN0.below b1 hN0.lt
  have g0 := hw1.cell 0
  have g1 := hw1.cell 1
  have g2 := hw1.cell 2
  have g3 := hw1.cell 3
  have g4 := hw1.cell 4
  go_wp2_with fail
  refine (Few_any nl A c ps code a fl w.heap.size w1 hl1 (by omega) hm).mono ?_
  rintro e w2 ⟨rfl, b2⟩
  rw [HF.out]
  clear g0 g1 g2 g3 g4
  have s2 := b2.size
  have hw2 := hw1.below b2 hw1.lt
  have hl2 : Lies w2 w.heap.size A (ps.map sv) := hl1.keep fun p hp => b2.cell (by omega)
  have bw2 := bw1.trans (b2.mono (by omega))
  have hh2 := hh1.below b2 hh1.lt
  have hN2 := hN1.below b2 hN1.lt
  have g0 := hw2.cell 0
  have g1 := hw2.cell 1
  have g2 := hw2.cell 2
  have g3 := hw2.cell 3
  have g4 := hw2.cell 4
  go_wp2_with fail
  refine (awake_any w2 hh2 hN2).mono ?_
  rintro e w3 ⟨rfl, b3⟩
  go_wp2_with fail
  go_ret
  exact ⟨rfl, bw2.trans (b3.mono (by omega))⟩

set_option maxHeartbeats 4000000 in
theorem shifts_nil  (A : Option Addr) (c : Nat) (ps : List ByteArray) (code a : Int) (fl : Bool) (n : Int) (w : World) (hl : Lies w w.heap.size A (ps.map sv)) (hm : ps.length ≤ maxLen) (hn : -2147483648 ≤ n ∧ n ≤ 2147483647) (hF : fewB ps a = true) (hh : Handle w) (hN : Names w) :
    Calls Tryd.prog 4 #[descV true A ps.length c code a fl, .int .i32 n] w fun e w' => e = .returned (.bool true) ∧ Below w.heap.size w w' := by
  obtain ⟨hn1, hn2⟩ := hn
  have HF := Lib.hid hF
  clear hF
  have hl0 := hl.alloc (Nat.le_refl _) (.cells #[.bool true, .slice A ps.length c, .int .i64 code, .int .i64 a, .bool fl] 24)
  have hw0 := Whole.new w 24 #[.bool true, .slice A ps.length c, .int .i64 code, .int .i64 a, .bool fl]
  have bb := (Below.refl _ w).alloc (Nat.le_refl _) (.cells #[.bool true, .slice A ps.length c, .int .i64 code, .int .i64 a, .bool fl] 24)
  have hh0 := hh.alloc (.cells #[.bool true, .slice A ps.length c, .int .i64 code, .int .i64 a, .bool fl] 24)
  have hN0 := hN.alloc (.cells #[.bool true, .slice A ps.length c, .int .i64 code, .int .i64 a, .bool fl] 24)
  have hsz0 : w.heap.size < (w.alloc (.cells #[.bool true, .slice A ps.length c, .int .i64 code, .int .i64 a, .bool fl] 24)).heap.size := by simp
  generalize hW0 : w.alloc (.cells #[.bool true, .slice A ps.length c, .int .i64 code, .int .i64 a, .bool fl] 24) = w0 at hl0 hw0 bb hh0 hN0 hsz0
  have HW0 := Lib.hid hW0
  clear hW0
  go_enter Tryd.func4, Tryd.ntmps4
  go_wp2_with fail
  rw [HW0.out]
  refine (awake_any w0 hh0 hN0).mono ?_
  rintro e w1 ⟨rfl, b1⟩
  have hw1 := hw0.below b1 hsz0
  have hl1 : Lies w1 w.heap.size A (ps.map sv) := hl0.keep fun p hp => b1.cell (by omega)
  have s1 := b1.size
  have bw1 := bb.trans (b1.mono (Nat.le_of_lt hsz0))
  have hh1 := hh0.below b1 hh0.lt
  have hN1 := hN0.below b1 hN0.lt
  have g0 := hw1.cell 0
  have g1 := hw1.cell 1
  have g2 := hw1.cell 2
  have g3 := hw1.cell 3
  have g4 := hw1.cell 4
  go_wp2_with fail
  refine (Few_any true A c ps code a fl w.heap.size w1 hl1 (by omega) hm).mono ?_
  rintro e w2 ⟨rfl, b2⟩
  rw [HF.out]
  clear g0 g1 g2 g3 g4
  have s2 := b2.size
  have hw2 := hw1.below b2 hw1.lt
  have hl2 : Lies w2 w.heap.size A (ps.map sv) := hl1.keep fun p hp => b2.cell (by omega)
  have bw2 := bw1.trans (b2.mono (by omega))
  have hh2 := hh1.below b2 hh1.lt
  have hN2 := hN1.below b2 hN1.lt
  have g0 := hw2.cell 0
  have g1 := hw2.cell 1
  have g2 := hw2.cell 2
  have g3 := hw2.cell 3
  have g4 := hw2.cell 4
  go_wp2_with fail
  refine (build_nil A ps.length c code a fl w2).mono ?_
  rintro e w3 ⟨rfl, b3⟩
  clear g0 g1 g2 g3 g4
  have s3 := b3.size
  have hw3 := hw2.below b3 hw2.lt
  have bw3 := bw2.trans (b3.mono (by omega))
  go_wp2_with fail
  refine (Shift_nil _ _).mono ?_
  rintro e w4 ⟨rfl, b4⟩
  have hw4 := hw3.below b4 hw3.lt
  have g0 := hw4.cell 0
  go_wp2_with fail
  go_ret
  exact ⟨rfl, bw3.trans (b4.mono (by omega))⟩

set_option maxHeartbeats 4000000 in
theorem shifts_some  (A : Option Addr) (c : Nat) (ps : List ByteArray) (code a : Int) (fl : Bool) (n : Int) (w : World) (hl : Lies w w.heap.size A (ps.map sv)) (hm : ps.length ≤ maxLen) (hn : -2147483648 ≤ n ∧ n ≤ 2147483647) (hF : fewB ps a = true) (hh : Handle w) (hN : Names w) :
    Calls Tryd.prog 4 #[descV false A ps.length c code a fl, .int .i32 n] w fun e w' => e = .returned (.bool true) ∧ Below w.heap.size w w' := by
  obtain ⟨hn1, hn2⟩ := hn
  have HF := Lib.hid hF
  clear hF
  have hl0 := hl.alloc (Nat.le_refl _) (.cells #[.bool false, .slice A ps.length c, .int .i64 code, .int .i64 a, .bool fl] 24)
  have hw0 := Whole.new w 24 #[.bool false, .slice A ps.length c, .int .i64 code, .int .i64 a, .bool fl]
  have bb := (Below.refl _ w).alloc (Nat.le_refl _) (.cells #[.bool false, .slice A ps.length c, .int .i64 code, .int .i64 a, .bool fl] 24)
  have hh0 := hh.alloc (.cells #[.bool false, .slice A ps.length c, .int .i64 code, .int .i64 a, .bool fl] 24)
  have hN0 := hN.alloc (.cells #[.bool false, .slice A ps.length c, .int .i64 code, .int .i64 a, .bool fl] 24)
  have hsz0 : w.heap.size < (w.alloc (.cells #[.bool false, .slice A ps.length c, .int .i64 code, .int .i64 a, .bool fl] 24)).heap.size := by simp
  generalize hW0 : w.alloc (.cells #[.bool false, .slice A ps.length c, .int .i64 code, .int .i64 a, .bool fl] 24) = w0 at hl0 hw0 bb hh0 hN0 hsz0
  have HW0 := Lib.hid hW0
  clear hW0
  go_enter Tryd.func4, Tryd.ntmps4
  go_wp2_with fail
  rw [HW0.out]
  refine (awake_any w0 hh0 hN0).mono ?_
  rintro e w1 ⟨rfl, b1⟩
  have hw1 := hw0.below b1 hsz0
  have hl1 : Lies w1 w.heap.size A (ps.map sv) := hl0.keep fun p hp => b1.cell (by omega)
  have s1 := b1.size
  have bw1 := bb.trans (b1.mono (Nat.le_of_lt hsz0))
  have hh1 := hh0.below b1 hh0.lt
  have hN1 := hN0.below b1 hN0.lt
  have g0 := hw1.cell 0
  have g1 := hw1.cell 1
  have g2 := hw1.cell 2
  have g3 := hw1.cell 3
  have g4 := hw1.cell 4
  go_wp2_with fail
  refine (Few_any false A c ps code a fl w.heap.size w1 hl1 (by omega) hm).mono ?_
  rintro e w2 ⟨rfl, b2⟩
  rw [HF.out]
  clear g0 g1 g2 g3 g4
  have s2 := b2.size
  have hw2 := hw1.below b2 hw1.lt
  have hl2 : Lies w2 w.heap.size A (ps.map sv) := hl1.keep fun p hp => b2.cell (by omega)
  have bw2 := bw1.trans (b2.mono (by omega))
  have hh2 := hh1.below b2 hh1.lt
  have hN2 := hN1.below b2 hN1.lt
  have g0 := hw2.cell 0
  have g1 := hw2.cell 1
  have g2 := hw2.cell 2
  have g3 := hw2.cell 3
  have g4 := hw2.cell 4
  go_wp2_with fail
  refine (build_any A c ps code a fl w.heap.size w2 hl2 (by omega) hm).mono ?_
  rintro e w3 ⟨rfl, b3⟩
  clear g0 g1 g2 g3 g4
  have s3 := b3.size
  have hw3 := hw2.below b3 hw2.lt
  have bw3 := bw2.trans (b3.mono (by omega))
  have hh3 := hh2.below b3 hh2.lt
  go_wp2_with fail
  refine (Shift_any fl code a n ps.reverse w3 hh3).mono ?_
  rintro e w4 ⟨rfl, b4⟩
  have s4 := b4.size
  have hw4 := hw3.below b4 hw3.lt
  have bw4 := bw3.trans (b4.mono (by omega))
  have hh4 := hh3.below b4 hh3.lt
  obtain ⟨_, _, f1, f2⟩ := few_of HF.out
  unfold lowA at f1
  unfold highA at f2
  have ew : wrap64 (offOf fl a + n) = offOf fl a + n := wrap64_id (by unfold offOf; cases fl <;> simp <;> omega)
  rw [ew]
  clear ew
  have g0 := hw4.cell 0
  unfold faultV
  go_wp2_with fail
  clear g0
  refine (Code_any true code (offOf fl a + n) [] w4 hh4).mono ?_
  rintro e w5 ⟨rfl, b5⟩
  have s5 := b5.size
  have hw5 := hw4.below b5 hw4.lt
  have bw5 := bw4.trans (b5.mono (by omega))
  have hh5 := hh4.below b5 hh4.lt
  go_wp2_with fail
  refine (At_any true code (offOf fl a + n) [] w5 hh5).mono ?_
  rintro e w6 ⟨rfl, b6⟩
  have s6 := b6.size
  have hw6 := hw5.below b6 hw5.lt
  have bw6 := bw5.trans (b6.mono (by omega))
  rw [show offOf true (offOf fl a + n) = offOf fl a + n from rfl]
  cases fl
  · rw [show offOf false a + n = n from Int.zero_add n]
    have g2 := hw6.cell 2
    have g3 := hw6.cell 3
    have g4 := hw6.cell 4
    go_wp2_with fail
    go_ret
    exact ⟨rfl, bw6⟩
  · rw [show offOf true a + n = n + a from Int.add_comm a n]
    have g2 := hw6.cell 2
    have g3 := hw6.cell 3
    have g4 := hw6.cell 4
    go_wp2_with fail
    go_ret
    exact ⟨rfl, bw6⟩

set_option maxRecDepth 100000 in
theorem law_FaultShifts {H : Type} {enc : TypeId × Value → H} {W : World} {base : Nat} {v0 v1 : Value} {d0 d1 : DataW H} {p0 p1 : List MemPlace}
    (o0 : Value.okWide Tryd.prog W .any base 24 v0) (h0 : DataW.Trod enc Tryd.prog W 0 (fun _ => true) true 24 v0 d0 p0) (_s0 : Small Tryd.prog 24 d0)
    (o1 : Value.okWide Tryd.prog W .any base 21 v1) (h1 : DataW.Trod enc Tryd.prog W 0 (fun _ => true) true 21 v1 d1 p1) (_s1 : Small Tryd.prog 21 d1) (hL : laidMetH Tryd.prog laidL W) :
    Calls Tryd.prog 4 #[v0, v1] W fun e w' => e = .returned (.bool true) ∧ Below W.heap.size W w' := by
  obtain ⟨n, rfl, _, _, wn⟩ := open_int Tryd.underlying21 o1 h1
  obtain ⟨nl, A, c, code, a, fl, ps, rfl, hl, hm, _, _⟩ := open_desc o0 h0
  have hn : -2147483648 ≤ n ∧ n ≤ 2147483647 := by
    have := bounds_i32 wn
    omega
  have hh := handle_of_laid hL
  have hN := names_of_laid hL
  cases hF : fewB ps a
  · exact shifts_few nl A c ps code a fl n W hl hm hn hF hh hN
  · cases nl
    · exact shifts_some A c ps code a fl n W hl hm hn hF hh hN
    · exact shifts_nil A c ps code a fl n W hl hm hn hF hh hN
end Go.Proofs.YtkcgmheljdkacaaDoor
