/- CauseG + CauseJ + CauseK -/
import Derived.Test.YtdnilbebdgohnaaCauseEF
import Derived.Deep.OwnRows
import Derived.Test.YtdnilbebdgohnaaNodeRB
import Derived.Test.YtdnilbebdgohnaaNodeV
import Derived.Test.YtdnilbebdgohnaaNodeRW
import Derived.Deep.Cut


namespace Go.Proofs.Ytdnilbebdgohnaa
open Go.RowKit

theorem fill_step {α β : Type} (f : α → β) (z : β) {l : List α} {k : Nat} {x : α} (hx : l[k]? = some x) :
    ((l.take k).map f ++ List.replicate (l.length - k) z).set k (f x) = (l.take (k + 1)).map f ++ List.replicate (l.length - (k + 1)) z := by
  have hk := (List.getElem?_eq_some_iff.1 hx).1
  have hl : ((l.take k).map f).length = k := by rw [List.length_map, List.length_take]; omega
  rw [List.set_append_right (h := by rw [hl]; exact Nat.le_refl _), hl, Nat.sub_self, show l.length - k = (l.length - (k + 1)) + 1 by omega, List.replicate_succ, List.set_cons_zero, take_some hx, List.map_append, List.append_assoc]
  rfl
abbrev RowU (w : World) (g : Nat) (l : List UInt32) : Prop := Whole w g 23 (l.map uv).toArray
theorem RowU.store {w : World} {g : Nat} {l : List UInt32} (h : RowU w g l) (i : Nat) (x : UInt32) : RowU (w.setCell ⟨g, i, none⟩ (.int .u32 (x.toNat : Int))) g (l.set i x) := by
  have := Whole.set_ h i (uv x)
  unfold RowU
  rw [List.map_set, ← List.setIfInBounds_toArray]
  exact this
theorem RowU.at_ {w : World} {g : Nat} {l : List UInt32} (h : RowU w g l) {i : Nat} (hi : i < l.length) : w.cell? ⟨g, i, none⟩ = some (.int .u32 (l[i].toNat : Int)) := by
  have := Whole.cell h i
  simpa [hi] using this
theorem RowU.lies {w : World} {g B : Nat} {l : List UInt32} (h : RowU w g l) (hB : g < B) : Lies w B (some ⟨g, 0, none⟩) (l.map uv) := fun _ =>
  ⟨_, rfl, hB, fun j u hu => by rw [add_row, Whole.cell h]; simpa using hu⟩
theorem u32info' : (Try.prog.info? 23).map (fun i => (i.zero, i.size, i.bytes)) = some (some (.int .u32 0), 1, 4) := by kernel_rfl
theorem own_whole' {w : World} {base e g n : Nat} {xs : List Value} (h : w.ownsRow base e 1 (.slice (some ⟨g, 0, none⟩) n n) n xs) : Whole w g e xs.toArray := by
  rcases h.2 with ⟨h1, _⟩ | ⟨g', cap, cur, h1, h2, h3, _, _, h6, h7⟩
  · simp at h1
  · simp only [Value.slice.injEq, Option.some.injEq, Addr.mk.injEq, and_true, true_and] at h1
    obtain ⟨rfl, rfl⟩ := h1
    rw [List.take_of_length_le (by simp; omega)] at h7
    subst h7
    exact h3
theorem wpList_make_u (w : World) {ops : Array Oper} {rest : List Oper} {o : Oper} {a : Act} {Q : Exit → Act → World → Prop}
    (hg : o.guard = none) (l c : Operand) (hop : o.op = Op.makeSlice 62 l c)
    (L : Int) (n : Nat) (hl : a.eval l = .int .i64 L) (hc : a.eval c = .int .i64 L) (hL : L = (n : Int)) (hn : n ≤ 10000000)
    (hK : ∀ w', RowU w' w.heap.size (List.replicate n 0) → Below w.heap.size w w' → wpList Try.prog ops Q rest (a.put o.dst (.slice (some ⟨w.heap.size, 0, none⟩) n n)) w') :
    wpList Try.prog ops Q (o :: rest) a w := by
  obtain ⟨i0, hi, hz0, hz1, hz2⟩ := info_parts u32info'
  refine wpList_make_full w hg l c 62 hop w.heap.size 23 i0 (.int .u32 0) 1 Try.underlying62 hi hz0 hz1 .i64 .i64 L L n hl hc hL hL (by rw [hz2]; omega) (by unfold maxLen; omega) (Nat.le_refl _) ?_
  intro w' hown hgrow
  refine hK w' ?_ ((Below.refl _ w).grown hgrow (Nat.le_refl _) (by simp))
  have h1 := own_whole' hown
  unfold RowU
  rw [List.map_replicate, show uv 0 = Value.int .u32 0 from rfl]
  simpa [Whole, toList_madeCells_one, Value.cells] using h1
/-- the check's closure over types, behind whatever -/
theorem right_g (L : List UInt16) (n : Nat) (hn : L.length = n) (cs : Array Value) (hcs : cs = (L.map hv).toArray) (w0 : World) :
    Calls Try.prog 32 #[.slice (some ⟨w0.heap.size, 0, none⟩) n n] (w0.alloc (.cells cs 22)) fun e w1 =>
    ∃ g, e = .returned (.func (.func 43) #[] #[.pointer (some ⟨g, 0, none⟩)]) ∧ RgtAt w0 w1 g w0.heap.size L n := by
  subst hcs
  subst hn
  refine (cright_any L (some ⟨w0.heap.size, 0, none⟩) L.length (w0.alloc (.cells (L.map hv).toArray 22))).mono ?_
  rintro e w1 ⟨rfl, rfl⟩
  refine ⟨_, rfl, ((Below.refl _ _).alloc (Nat.le_refl _) _).alloc (by simp) _, Whole.new _ _ _, ?_⟩
  exact (((Lies.newN w0 (L.map hv) 22).more (B' := w0.heap.size + 1) (Nat.le_refl _)).alloc (by simp) _).more (by simp)
theorem wideT_conv (x : UInt16) : (x.toNat : Int) = ((wideT x).toNat : Int) := by
  unfold wideT
  rw [u32_nat (by have := x.toNat_lt; omega)]
theorem joinM (v1 v2 : Value) (p1 p2 : List UInt8) (M : Nat) (hM : p1.length + p2.length = M) (w : World) (h1 : IsB w w.heap.size v1 p1) (h2 : IsB w w.heap.size v2 p2) (hn : M ≤ 10000000) :
    Calls Try.prog 34 #[.slice (some ⟨w.heap.size, 0, none⟩) 2 2] (w.alloc (.cells #[v1, v2] 25)) fun e w' =>
      ∃ A' c', e = .returned (.slice A' M c') ∧ Lies w' w'.heap.size A' ((p1 ++ p2).map bv) ∧ M ≤ c' ∧ c' ≤ maxLen ∧ Below w.heap.size w w' := by
  subst hM
  refine (join2_any v1 v2 p1 p2 w h1 h2 hn).mono ?_
  rintro e w1 ⟨A, c, rfl, hown, b1⟩
  have := own_cap hown
  exact ⟨A, c, rfl, Lies.own hown, this.2.1, this.2.2, b1⟩

set_option maxRecDepth 100000 in
set_option maxHeartbeats 2000000 in
theorem missing10_any (A : Option Addr) (c : Nat) (l : List UInt16) (w : World) (h : Lies w w.heap.size A (l.map hv)) (hl : l.length ≤ 100000) :
    Calls Try.prog 19 #[.slice A l.length c] w (RetN w (missN l)) := by
  have hF0 := fin_new w
  have HR := Lib.hid (miss_right l (by omega))
  have h0 := (h.below hF0.low).more hF0.low.size
  go_enter Try.func19, Try.ntmps19
  go_upto_region 1 with fail
  generalize w.alloc (.cells #[.int .u16 0, .slice none 0 0, .slice none 0 0] 28) = w0 at *
  go_wp2_with (at_make; refine wpList_make_u _ rfl (.tmp 9) (.tmp 9) rfl _ l.length rfl rfl rfl (by omega) ?_; intro w1 hrow hb1)
  have HI : Hid (RowU w1 w0.heap.size ((l.take 0).map wideT ++ List.replicate (l.length - 0) 0)) := by simpa [Hid] using hrow
  clear hrow
  go_loopw [13] (fun i wr => ∃ k : Nat, k ≤ l.length ∧ i = .int .i64 k ∧ Hid (RowU wr w0.heap.size ((l.take k).map wideT ++ List.replicate (l.length - k) 0)) ∧ Below w0.heap.size w0 wr) (fun i _ => l.length - (intOf i).toNat)
  case atStart => exact ⟨0, Nat.zero_le _, rfl, HI, hb1⟩
  case round =>
    obtain ⟨k, hk, rfl, hrw, hbel⟩ := hrel
    by_cases hlt : k < l.length
    · obtain ⟨ad, x, rfl, hb, hx, hc⟩ := (h0.below hbel).half hlt
      have hcell := hrw.out.at_ (i := k) (by simp; omega)
      have hfr := Whole.frozen hrw.out k
      have HS := Lib.hid (hrw.out.store k (wideT x))
      have HFS := Lib.hid (fill_step wideT 0 hx.out)
      have HBW : Hid (Below w0.heap.size w0 (wr.setCell ⟨w0.heap.size, k, none⟩ (.int .u32 ((x.toNat : Int) % 4294967296)))) := hbel.setCell (Nat.le_refl _) _
      have hwc : ((wideT x).toNat : Int) = (x.toNat : Int) % 4294967296 := by rw [← wideT_conv x]; have := x.toNat_lt; omega
      rw [hwc] at HS
      clear hwc
      have hi1 : (k : Int) < (l.length : Int) := by omega
      go_wp2_with fail
      go_roundw
      case rel =>
        refine ⟨k + 1, by omega, by go_num, ?_, HBW.out⟩
        unfold Hid
        rw [← HFS.out]
        exact HS.out
      case measure => simp [intOf]; omega
    · obtain rfl : k = l.length := by omega
      have HRW : Hid (RowU wr w0.heap.size (l.map wideT)) := by
        have := hrw.out
        unfold Hid
        simpa using this
      clear hrw
      have hF1 := hF0.below hbel
      have hP1 := put1_any l.length (by omega) wr
      go_wp2_with fail
      refine hP1.mono ?_
      rintro e w2 ⟨A2, c2, rfl, l2, m2, m3, b2⟩
      have hrow2 : RowU w2 w0.heap.size (l.map wideT) := Whole.below HRW.out b2 (Whole.lt HRW.out)
      have hP2 := put_any 2 (by omega) (some ⟨w0.heap.size, 0, none⟩) l.length (l.map wideT) w2 (hrow2.lies (Whole.lt hrow2)) (by rw [List.length_map]; omega)
      rw [List.length_map] at hP2
      obtain ⟨n2, hn2⟩ : ∃ n2, l.length * 2 = n2 := ⟨_, rfl⟩
      rw [hn2] at hP2
      go_wp2_with fail
      refine hP2.mono ?_
      rintro e w3 ⟨A3, c3, rfl, hown3, b3⟩
      have cap3 := own_cap hown3
      have hI1 : IsB w3 w3.heap.size (.slice A2 4 c2) (be 4 (UInt32.ofNat l.length)) := ⟨A2, c2, by rw [be_len], (l2.below b3).more b3.size, by rw [be_len]; exact m2, m3⟩
      have hI2 : IsB w3 w3.heap.size (.slice A3 n2 c3) (puts 2 (l.map wideT)) := ⟨A3, c3, by rw [puts_len, List.length_map, hn2], Lies.own hown3, by rw [puts_len, List.length_map, hn2]; exact cap3.2.1, cap3.2.2⟩
      obtain ⟨M, hM⟩ : ∃ M, (dM l).length = M := ⟨_, rfl⟩
      have hM2 : M ≤ 300000 := by rw [← hM, dM_len]; omega
      have hJ := joinM _ _ _ _ M (by rw [← hM]; unfold dM; rw [List.length_append]) w3 hI1 hI2 (by omega)
      have HD : Hid (be 4 (UInt32.ofNat l.length) ++ puts 2 (l.map wideT) = dM l) := rfl
      have hF3 := (hF1.below b2).below b3
      have HM := Lib.hid hM
      clear hP1 hP2 hI1 hI2 hown3 cap3 hrow2 HRW l2 hM hn2
      go_wp2_with fail
      refine hJ.mono ?_
      rintro e w4 ⟨A4, c4, rfl, l4, m4, m5, b4⟩
      rw [HD.out] at l4
      have hF4 := hF3.below b4
      have hG := right_g [2] 1 rfl #[.int .u16 2] rfl w4
      clear hJ
      go_wp2_with fail
      refine hG.mono ?_
      rintro e w5 ⟨g5, rfl, R5⟩
      have hC := right1_leaf [2] (some ⟨w4.heap.size, 0, none⟩) 1 g5 2 (dM l) M HM.out A4 c4 w5 R5.hg R5.hL (by decide) ((l4.below R5.low).more R5.low.size) m4 m5 (by omega)
      rw [HR.out] at hC
      have hF5 := hF4.below R5.low
      clear hG
      go_wp2_with fail
      refine hC.mono ?_
      rintro e w6 ⟨b6, A6, c6, K6, k6, rfl, hN6⟩
      obtain ⟨z10, z11, z12, z13, z14, z15⟩ := (hF5.below b6).box.three
      obtain ⟨hE, hE2⟩ := hF5.ret b6 hN6
      generalize hn' : (missN l).getD zN = n' at *
      generalize hs' : (missN l).isSome = s' at *
      unfold ndV
      go_wp2_with fail
      (try simp only [Exit.then])
      refine bodyPost_ret (results_row_tmp rfl _ _ w.heap.size 28 _ _ rfl hE2 Try.underlying28 rfl (by kernel_rfl)) rfl ?_
      exact hE
end Go.Proofs.Ytdnilbebdgohnaa






namespace Go.Proofs.Ytdnilbebdgohnaa
open Go.RowKit

theorem same10_any (a b : Nd) (A : Option Addr) (c : Nat) (K : Option Addr) (k : Nat) (A' : Option Addr) (c' : Nat) (K' : Option Addr) (k' : Nat) (w : World) (ha : Node w w.heap.size A c K k a) (hb : Node w w.heap.size A' c' K' k' b) :
    Calls Try.prog 11 #[ndV a A c K k, ndV b A' c' K' k'] w fun e w' => e = .returned (.bool (a.beq b)) ∧ Below w.heap.size w w' := by
  unfold ndV
  have b0 : Below w.heap.size w ((w.alloc (.cells #[hv a.t, .slice A a.v.length c, .slice K a.ks.length k] 28)).alloc (.cells #[hv b.t, .slice A' b.v.length c', .slice K' b.ks.length k'] 28)) :=
    ((Below.refl _ _).alloc (Nat.le_refl _) _).alloc (by simp) _
  have x0 : NdBox _ w.heap.size a A c K k := (Whole.new w 28 #[hv a.t, .slice A a.v.length c, .slice K a.ks.length k]).alloc (.cells #[hv b.t, .slice A' b.v.length c', .slice K' b.ks.length k'] 28)
  have x1 : NdBox _ (w.heap.size + 1) b A' c' K' k' := wnew1 w (.cells #[hv a.t, .slice A a.v.length c, .slice K a.ks.length k] 28) 28 #[hv b.t, .slice A' b.v.length c', .slice K' b.ks.length k']
  have hN0 := ha.on b0
  have hM0 := hb.on b0
  have HB := Lib.hid b0
  have s00 := x0.c0
  have s01 := x0.c1
  have s02 := x0.c2
  have s10 := x1.c0
  have s11 := x1.c1
  have s12 := x1.c2
  have hlt1 := Whole.lt x1
  go_enter Try.func11, Try.ntmps11
  go_upto_region 1 with fail
  generalize (w.alloc (.cells #[hv a.t, .slice A a.v.length c, .slice K a.ks.length k] 28)).alloc (.cells #[hv b.t, .slice A' b.v.length c', .slice K' b.ks.length k'] 28) = w0 at *
  have hne0 : w.heap.size ≠ w0.heap.size := by omega
  have hne1 : w.heap.size + 1 ≠ w0.heap.size := by omega
  have b2 : Below w0.heap.size w0 ((w0.alloc (.cells #[hv a.t, .slice A a.v.length c, .slice K a.ks.length k] 28)).alloc (.cells #[hv b.t, .slice A' b.v.length c', .slice K' b.ks.length k'] 28)) :=
    ((Below.refl _ _).alloc (Nat.le_refl _) _).alloc (by simp) _
  have q1 : Whole _ w0.heap.size 28 #[hv a.t, .slice A a.v.length c, .slice K a.ks.length k] := (Whole.new w0 28 #[hv a.t, .slice A a.v.length c, .slice K a.ks.length k]).alloc (.cells #[hv b.t, .slice A' b.v.length c', .slice K' b.ks.length k'] 28)
  have q2 : Whole _ (w0.heap.size + 1) 28 #[hv b.t, .slice A' b.v.length c', .slice K' b.ks.length k'] := wnew1 w0 (.cells #[hv a.t, .slice A a.v.length c, .slice K a.ks.length k] 28) 28 #[hv b.t, .slice A' b.v.length c', .slice K' b.ks.length k']
  have hS := rsame_any [a] [b] (some ⟨w0.heap.size, 0, none⟩) (some ⟨w0.heap.size + 1, 0, none⟩) 1 1 _ (list1_of q1 (hN0.on b2)) (list1_of q2 (hM0.on b2)) (by simp) (by simp)
  have HS : Hid (beqL [a] [b] = a.beq b) := by simp [Hid, beqL]
  have hS' := hS.mono (R' := fun e w' => e = .returned (.bool (a.beq b)) ∧ Below w0.heap.size w0 w') (fun e w' h => ⟨by rw [h.1, HS.out], b2.trans (h.2.mono b2.size)⟩)
  simp only [List.length_cons, List.length_nil, Nat.zero_add] at hS'
  clear hS q1 q2 b2 b0 x0 x1
  go_wp2_with fail
  refine hS'.mono ?_
  rintro e w1 ⟨rfl, b1⟩
  go_wp2_with fail
  go_ret
  exact ⟨rfl, HB.out.trans (b1.mono HB.out.size)⟩
theorem right10_no (n : Nd) (A : Option Addr) (c : Nat) (K : Option Addr) (k : Nat) (w : World) (hN : Node w w.heap.size A c K k n) :
    Calls Try.prog 12 #[ndV n A c K k, .bool false] w fun e w' => e = .returned (.bool (n.beq zN)) ∧ Below w.heap.size w w' := by
  have b0 : Below w.heap.size w (w.alloc (.cells #[hv n.t, .slice A n.v.length c, .slice K n.ks.length k] 28)) := (Below.refl _ _).alloc (Nat.le_refl _) _
  have x0 : NdBox (w.alloc (.cells #[hv n.t, .slice A n.v.length c, .slice K n.ks.length k] 28)) w.heap.size n A c K k := Whole.new w 28 #[hv n.t, .slice A n.v.length c, .slice K n.ks.length k]
  have hS : Calls Try.prog 11 #[.agg #[hv n.t, .slice A n.v.length c, .slice K n.ks.length k], .agg #[.int .u16 0, .slice none 0 0, .slice none 0 0]] (w.alloc (.cells #[hv n.t, .slice A n.v.length c, .slice K n.ks.length k] 28)) _ :=
    same10_any n zN A c K k none 0 none 0 _ (hN.on b0) ⟨Lies.nil, Nat.le_refl _, Nat.zero_le _, Nodes.nil _ _ _, Nat.le_refl _, Nat.zero_le _⟩
  have s0 := x0.c0
  have s1 := x0.c1
  have s2 := x0.c2
  unfold ndV
  go_enter Try.func12, Try.ntmps12
  go_wp2_with fail
  refine hS.mono ?_
  rintro e w1 ⟨rfl, b1⟩
  go_wp2_with fail
  go_ret
  exact ⟨rfl, b0.trans (b1.mono b0.size)⟩
theorem right10_yes (n : Nd) (A : Option Addr) (c : Nat) (K : Option Addr) (k : Nat) (w : World) (hN : Node w w.heap.size A c K k n) (hf : Fine n) :
    Calls Try.prog 12 #[ndV n A c K k, .bool true] w fun e w' => e = .returned (.bool (decide (chk 4 2 n = 0))) ∧ Below w.heap.size w w' := by
  have b0 : Below w.heap.size w (w.alloc (.cells #[hv n.t, .slice A n.v.length c, .slice K n.ks.length k] 28)) := (Below.refl _ _).alloc (Nat.le_refl _) _
  have x0 : NdBox (w.alloc (.cells #[hv n.t, .slice A n.v.length c, .slice K n.ks.length k] 28)) w.heap.size n A c K k := Whole.new w 28 #[hv n.t, .slice A n.v.length c, .slice K n.ks.length k]
  have hS : Calls Try.prog 24 #[.int .i64 2, .agg #[hv n.t, .slice A n.v.length c, .slice K n.ks.length k], .int .i64 1] (w.alloc (.cells #[hv n.t, .slice A n.v.length c, .slice K n.ks.length k] 28)) _ :=
    rcheck1_any 2 (.inr rfl) n A c K k _ (hN.on b0) hf
  have s0 := x0.c0
  have s1 := x0.c1
  have s2 := x0.c2
  generalize chk 4 2 n = x at *
  unfold ndV
  by_cases hx : x = 0
  · subst hx
    go_enter Try.func12, Try.ntmps12
    go_wp2_with fail
    refine hS.mono ?_
    rintro e w1 ⟨rfl, b1⟩
    go_wp2_with fail
    go_ret
    exact ⟨rfl, b0.trans (b1.mono b0.size)⟩
  · have hx' : ((x : Int) == 0) = false := by rw [beq_eq_false_iff_ne]; omega
    have HX := Lib.hid (decide_eq_false hx)
    clear hx
    go_enter Try.func12, Try.ntmps12
    go_wp2_with fail
    refine hS.mono ?_
    rintro e w1 ⟨rfl, b1⟩
    go_wp2_with fail
    go_ret
    exact ⟨ret_bool HX.out.symm, b0.trans (b1.mono b0.size)⟩
end Go.Proofs.Ytdnilbebdgohnaa


namespace Go.Proofs.Ytdnilbebdgohnaa
open Go.RowKit

def n258 : Nd := .mk 1 [1, 2, 0, 0] []
def m7 : Nd := .mk 2 [0, 0, 0, 1, 0, 7] []
theorem fine_258 : Fine n258 := .mk (by decide +kernel) (by decide) (by intro k hk; simp [n258, Nd.ks] at hk)
theorem fine_m7 : Fine m7 := .mk (by decide +kernel) (by decide) (by intro k hk; simp [m7, Nd.ks] at hk)
theorem num258 : numN 1 258 = some n258 := by
  unfold numN
  rw [if_neg (by decide), if_pos (by decide)]
  rfl
theorem val258 : valO n258 = some 258 := by
  have h := val_num 1 258 (by omega)
  rw [num258] at h
  simpa using h
theorem ok258 : okC numT n258 = true := by rw [okC_num]; decide
theorem num65536 : numN 1 65536 = none := by
  unfold numN
  rw [if_neg (by decide), if_neg (by decide)]
theorem miss7 : missN [7] = some m7 := by
  unfold missN
  rw [if_neg (by decide)]
  rfl
theorem typ7 : typO m7 = some [7] := by
  have h := typ_miss [7] (by decide)
  rw [miss7] at h
  simpa using h
theorem chunk3 : chunkO [1, 2, 3] = none := by decide
section
variable (w : World)
theorem aw10_num : Calls Try.prog 9 #[.int .u16 1, .int .u32 258] w fun e w' => Below w.heap.size w w' ∧ ∃ A c K k, e = .returned (.tuple #[.agg #[.int .u16 1, .slice A 4 c, .slice K 0 k], .bool true]) ∧ Node w' w'.heap.size A c K k n258 := by
  have h := number10_any 1 258 (by omega) w
  rw [num258] at h
  refine Calls.mono (R := RetN w (some n258)) h ?_
  rintro e w1 ⟨b1, A, c, K, k, rfl, hN⟩
  exact ⟨b1, A, c, K, k, rfl, hN.node fun b hb => hb.2⟩
theorem aw10_val (A : Option Addr) (c : Nat) (K : Option Addr) (k : Nat) (hN : Node w w.heap.size A c K k n258) :
    Calls Try.prog 13 #[.agg #[.int .u16 1, .slice A 4 c, .slice K 0 k]] w fun e w' => e = .returned (.tuple #[.int .u32 258, .bool true]) ∧ Below w.heap.size w w' := by
  have h := value10_yes n258 A c K k w hN fine_258 ok258 rfl
  rw [val258] at h
  exact h
theorem aw10_no : Calls Try.prog 9 #[.int .u16 1, .int .u32 65536] w fun e w' => Below w.heap.size w w' ∧ ∃ A c K k, e = .returned (.tuple #[.agg #[.int .u16 0, .slice A 0 c, .slice K 0 k], .bool false]) := by
  have h := number10_any 1 65536 (by omega) w
  rw [num65536] at h
  refine Calls.mono (R := RetN w none) h ?_
  rintro e w1 ⟨b1, A, c, K, k, rfl, hN⟩
  exact ⟨b1, A, c, K, k, rfl⟩
theorem aw10_miss : Calls Try.prog 19 #[.slice (some ⟨w.heap.size, 0, none⟩) 1 1] (w.alloc (.cells #[.int .u16 7] 22)) fun e w' => Below w.heap.size w w' ∧ ∃ A c K k, e = .returned (.tuple #[.agg #[.int .u16 2, .slice A 6 c, .slice K 0 k], .bool true]) ∧ Node w' w'.heap.size A c K k m7 := by
  have hb : Below w.heap.size w (w.alloc (.cells #[.int .u16 7] 22)) := (Below.refl _ w).alloc (Nat.le_refl _) _
  have h := missing10_any (some ⟨w.heap.size, 0, none⟩) 1 [7] (w.alloc (.cells #[.int .u16 7] 22)) ((Lies.newN w ([(7 : UInt16)].map hv) 22).more (by simp)) (by decide)
  rw [miss7] at h
  refine Calls.mono (R := RetN (w.alloc (.cells #[.int .u16 7] 22)) (some m7)) h ?_
  rintro e w1 ⟨b1, A, c, K, k, rfl, hN⟩
  exact ⟨hb.trans (b1.mono hb.size), A, c, K, k, rfl, hN.node fun b hb => hb.2⟩
theorem aw10_typ (A : Option Addr) (c : Nat) (K : Option Addr) (k : Nat) (hN : Node w w.heap.size A c K k m7) :
    Calls Try.prog 16 #[.agg #[.int .u16 2, .slice A 6 c, .slice K 0 k]] w fun e w' => Below w.heap.size w w' ∧ ∃ A' c', e = .returned (.tuple #[.slice A' 1 c', .bool true]) ∧ Lies w' w'.heap.size A' ([(7 : UInt16)].map hv) := by
  have h := types10_any m7 A c K k w hN fine_m7
  rw [typ7] at h
  refine Calls.mono (R := TypR w (some [7])) h ?_
  rintro e w1 ⟨b1, A1, c1, rfl, hl, _⟩
  exact ⟨b1, A1, c1, rfl, hl⟩
theorem aw10_chunk : Calls Try.prog 21 #[.slice (some ⟨w.heap.size, 0, none⟩) 3 3] (w.alloc (.cells #[.int .u8 1, .int .u8 2, .int .u8 3] 5)) fun e w' => Below w.heap.size w w' ∧ ∃ A c K k, e = .returned (.tuple #[.agg #[.int .u16 0, .slice A 0 c, .slice K 0 k], .bool false]) := by
  have hb : Below w.heap.size w (w.alloc (.cells ([(1 : UInt8), 2, 3].map bv).toArray 5)) := (Below.refl _ w).alloc (Nat.le_refl _) _
  have h := chunk10_any (some ⟨w.heap.size, 0, none⟩) 3 [1, 2, 3] (w.alloc (.cells ([(1 : UInt8), 2, 3].map bv).toArray 5)) ((Lies.newN w ([(1 : UInt8), 2, 3].map bv) 5).more (by simp)) (by decide) (by simp [maxLen]) (by decide)
  rw [chunk3] at h
  refine Calls.mono (R := RetN (w.alloc (.cells ([(1 : UInt8), 2, 3].map bv).toArray 5)) none) h ?_
  rintro e w1 ⟨b1, A, c, K, k, rfl, hN⟩
  exact ⟨hb.trans (b1.mono hb.size), A, c, K, k, rfl⟩
theorem aw10_same (A : Option Addr) (c : Nat) (h : Lies w w.heap.size A ([(1 : UInt8), 2, 0, 0].map bv)) :
    Calls Try.prog 25 #[.slice A 4 c, .slice (some ⟨w.heap.size, 0, none⟩) 4 4] (w.alloc (.cells #[.int .u8 1, .int .u8 2, .int .u8 0, .int .u8 0] 5)) fun e w' => e = .returned (.bool true) ∧ Below w.heap.size w w' := by
  have hb : Below w.heap.size w (w.alloc (.cells ([(1 : UInt8), 2, 0, 0].map bv).toArray 5)) := (Below.refl _ w).alloc (Nat.le_refl _) _
  have h1 := same_any A (some ⟨w.heap.size, 0, none⟩) c 4 (w.heap.size + 1) [1, 2, 0, 0] [1, 2, 0, 0] _ ((h.below hb).more (by omega)) (Lies.newN w ([(1 : UInt8), 2, 0, 0].map bv) 5) (by simp [maxLen])
  refine Calls.mono (R := fun e w' => e = .returned (.bool (decide ([(1 : UInt8), 2, 0, 0] = [1, 2, 0, 0]))) ∧ ∃ q, w' = (w.alloc (.cells ([(1 : UInt8), 2, 0, 0].map bv).toArray 5)).drewN q) h1 ?_
  rintro e w1 ⟨rfl, q, rfl⟩
  exact ⟨rfl, below_drewN hb q⟩
theorem aw10_eq (A : Option Addr) (c : Nat) (h : Lies w w.heap.size A ([(7 : UInt16)].map hv)) :
    Calls Try.prog 18 #[.slice A 1 c, .slice (some ⟨w.heap.size, 0, none⟩) 1 1] (w.alloc (.cells #[.int .u16 7] 22)) fun e w' => e = .returned (.bool true) ∧ Below w.heap.size w w' := by
  have hb : Below w.heap.size w (w.alloc (.cells ([(7 : UInt16)].map hv).toArray 22)) := (Below.refl _ w).alloc (Nat.le_refl _) _
  have h1 := eq16_any A (some ⟨w.heap.size, 0, none⟩) c 1 (w.heap.size + 1) [7] [7] _ ((h.below hb).more (by omega)) (Lies.newN w ([(7 : UInt16)].map hv) 22) (by decide)
  refine Calls.mono (R := fun e w' => e = .returned (.bool (decide ([(7 : UInt16)] = [7]))) ∧ ∃ q, w' = (w.alloc (.cells ([(7 : UInt16)].map hv).toArray 22)).drewN q) h1 ?_
  rintro e w1 ⟨rfl, q, rfl⟩
  exact ⟨rfl, below_drewN hb q⟩
end
theorem NdW.below {W W2 : World} {g : Nat} {t : TypeId} {a b c : Value} (h : Whole W g t #[a, b, c]) (hb : Below W.heap.size W W2) : Whole W2 g t #[a, b, c] := h.below hb h.lt
set_option maxRecDepth 100000 in
set_option maxHeartbeats 4000000 in
theorem awake10_any (w : World) : Calls Try.prog 8 #[] w fun e w' => e = .returned (.bool true) ∧ Below w.heap.size w w' := by
  go_enter Try.func8, Try.ntmps8
  go_wp2_with fail
  refine (aw10_num w).mono ?_
  rintro e w1 ⟨b1, A1, c1, K1, k1, rfl, hN1⟩
  have bn := (Below.refl w1.heap.size w1).alloc (Nat.le_refl _) (.cells #[.int .u16 1, .slice A1 4 c1, .slice K1 0 k1] 28)
  have x1 := Whole.new w1 28 #[.int .u16 1, .slice A1 4 c1, .slice K1 0 k1]
  have hN1' := hN1.on bn
  have B1 := b1.trans (bn.mono b1.size)
  go_upto_region 2 with fail
  generalize w1.alloc (.cells #[.int .u16 1, .slice A1 4 c1, .slice K1 0 k1] 28) = v1 at *
  obtain ⟨s0, s1, s2, _, _, _⟩ := x1.three
  go_wp2_with fail
  refine (aw10_val v1 A1 c1 K1 k1 hN1').mono ?_
  rintro e w2 ⟨rfl, b2⟩
  have B2 := B1.trans (b2.mono B1.size)
  have x2 := NdW.below x1 b2
  have hN2 := hN1'.on b2
  clear s0 s1 s2 hN1 b1 bn
  go_wp2_with fail
  refine (aw10_no w2).mono ?_
  rintro e w3 ⟨b3, A3, c3, K3, k3, rfl⟩
  have bn := (Below.refl w3.heap.size w3).alloc (Nat.le_refl _) (.cells #[.int .u16 0, .slice A3 0 c3, .slice K3 0 k3] 28)
  have x3 := NdW.below (NdW.below x2 b3) bn
  have hN3 := (hN2.on b3).on bn
  have B3 := (B2.trans (b3.mono B2.size)).trans (bn.mono (B2.trans (b3.mono B2.size)).size)
  go_upto_region 4 with fail
  generalize w3.alloc (.cells #[.int .u16 0, .slice A3 0 c3, .slice K3 0 k3] 28) = v3 at *
  go_wp2_with fail
  refine (aw10_miss v3).mono ?_
  rintro e w4 ⟨b4, A4, c4, K4, k4, rfl, hM4⟩
  have bn4 := (Below.refl w4.heap.size w4).alloc (Nat.le_refl _) (.cells #[.int .u16 2, .slice A4 6 c4, .slice K4 0 k4] 28)
  have x4 := NdW.below (NdW.below x3 b4) bn4
  have y4 := Whole.new w4 28 #[.int .u16 2, .slice A4 6 c4, .slice K4 0 k4]
  have hN4 := (hN3.on b4).on bn4
  have hM4' := hM4.on bn4
  have B4 := (B3.trans (b4.mono B3.size)).trans (bn4.mono (B3.trans (b4.mono B3.size)).size)
  go_upto_region 5 with fail
  generalize w4.alloc (.cells #[.int .u16 2, .slice A4 6 c4, .slice K4 0 k4] 28) = v4 at *
  obtain ⟨s0, s1, s2, _, _, _⟩ := y4.three
  go_wp2_with fail
  refine (aw10_typ v4 A4 c4 K4 k4 hM4').mono ?_
  rintro e w5 ⟨b5, A5, c5, rfl, hl5⟩
  have x5 := NdW.below x4 b5
  have hN5 := hN4.on b5
  have B5 := B4.trans (b5.mono B4.size)
  clear s0 s1 s2
  go_wp2_with fail
  refine (aw10_chunk w5).mono ?_
  rintro e w6 ⟨b6, A6, c6, K6, k6, rfl⟩
  have bn6 := (Below.refl w6.heap.size w6).alloc (Nat.le_refl _) (.cells #[.int .u16 0, .slice A6 0 c6, .slice K6 0 k6] 28)
  have x6 := NdW.below (NdW.below x5 b6) bn6
  have hN6 := (hN5.on b6).on bn6
  have hl6 := (((hl5.below b6).more b6.size).below bn6).more bn6.size
  have B6 := (B5.trans (b6.mono B5.size)).trans (bn6.mono (B5.trans (b6.mono B5.size)).size)
  go_upto_region 7 with fail
  generalize w6.alloc (.cells #[.int .u16 0, .slice A6 0 c6, .slice K6 0 k6] 28) = v6 at *
  obtain ⟨s0, s1, s2, _, _, _⟩ := x6.three
  go_wp2_with fail
  refine (aw10_same v6 A1 c1 hN6.data).mono ?_
  rintro e w7 ⟨rfl, b7⟩
  have B7 := B6.trans (b7.mono B6.size)
  have hE := aw10_eq w7 A5 c5 ((hl6.below b7).more b7.size)
  go_wp2_with fail
  refine hE.mono ?_
  rintro e w8 ⟨rfl, b8⟩
  go_wp2_with fail
  go_ret
  exact ⟨rfl, B7.trans (b8.mono B7.size)⟩
end Go.Proofs.Ytdnilbebdgohnaa

